package tests

import (
	"fmt"
	"math"
	"slices"
	"strings"
	"testing"

	"loop.example/g01393/impl"
)

// toldRaw tells all memory of the lists, to the end of each capacity, where
// zeros with a sign and all not-a-numbers are told apart.
func (a *deskArguments) toldRaw() string {
	var b strings.Builder
	fmt.Fprintf(&b, "%q %q %q %q %q %d %q", a.text, a.line, a.script, a.outputs, a.journal, len(a.lines), a.lines[:cap(a.lines)])
	for _, d := range []impl.Desk{a.d, a.other, {Scale: a.s}} {
		for _, list := range [][]int64{d.Scale.Breaks, d.Scale.Rates, d.Pays, d.Rates} {
			fmt.Fprint(&b, len(list), list[:cap(list)])
		}
		fmt.Fprint(&b, len(d.Table))
		for _, x := range d.Table[:cap(d.Table)] {
			fmt.Fprintf(&b, " %08x", math.Float32bits(x))
		}
	}
	return b.String()
}

func roomyDesk(d impl.Desk) impl.Desk {
	return deskOf(roomyScale(d.Scale), roomy(d.Pays), roomy(d.Rates), append(slices.Clone(d.Table), 0.25, 1, 0.5)[:len(d.Table)]...)
}

// makeRoomy gives unused capacity that is not 0 to all lists.
func (a *deskArguments) makeRoomy() {
	a.d, a.other, a.s = roomyDesk(a.d), roomyDesk(a.other), roomyScale(a.s)
	a.lines = append(slices.Clone(a.lines), "life", "x", "pays 7")[:len(a.lines)]
}

// anyText returns one of some texts, by bytes.
func (g *lcg) anyText(texts []string) string {
	return texts[g.below(int64(len(texts)-1))]
}

// deskShelves has many arguments for chapter 8: good ones of which some are
// exchanged for any others.
func deskShelves() []*deskArguments {
	desks, scales := append(goodDesks(), badDesks()...), append(goodScales(), badScales()...)
	lines, journals := deskLines(), journalLists()
	texts := append(noScaleTexts(), "0;0", "0,5;7,7", "0,1000;1000,2000")
	g := lcg(251)
	var all []*deskArguments
	for i := range 1200 {
		a := goodDeskArguments()
		a.line = lines[i*7%len(lines)]
		if i%3 > 0 {
			a.d, a.other, a.s = desks[i%len(desks)], desks[i/2%len(desks)], scales[i%len(scales)]
			a.text = g.anyText(texts)
			a.lines = journals[i%len(journals)]
			a.journal, _ = slowJournal(append(slices.Clone(a.lines), g.anyText(lines)))
		}
		if i%3 == 1 {
			a.script = g.anyText(lines) + "\n" + g.anyText(lines) + "\n" + g.anyText(lines) + "\n"
			a.outputs = a.script[g.below(int64(len(a.script))):]
		}
		if i%17 == 1 {
			a.script, a.outputs, a.journal = a.journal, a.line, a.script
			a.lines = append(slices.Clone(a.lines), g.anyText(lines)+"\n")
		}
		a.makeRoomy()
		all = append(all, a)
	}
	return all
}

// callsOfDesks has also the functions that never fail.
func callsOfDesks() []deskCall {
	return append(callsOfChapter8(),
		deskCall{"SameDesk", nil, func(a *deskArguments) []any {
			return results(impl.SameDesk(a.d, roomyDesk(a.d)), impl.SameDesk(a.d, a.other), true)
		}},
		deskCall{"NewDesk", nil, func(a *deskArguments) []any { return results(impl.NewDesk(), true) }})
}

// Promise 1: every function of chapter 8 returns for all arguments, modifies
// none of them, and returns equal results for equal arguments.
func TestPromise1Chapter8(t *testing.T) {
	shelves := deskShelves()
	returnSame(t, callsOfDesks(), shelves)
	calls := slices.DeleteFunc(callsOfChapter8(), func(c deskCall) bool { return c.name == "RecoverJournal" }) // which fails for long texts only
	someSucceed(t, calls, shelves)
}

func TestPromise1NewMemoryOfChapter8(t *testing.T) {
	returnNew(t, callsOfDesks(), deskShelves())
}

// A desk is new memory whatever the line does, also if it changes nothing.
func TestPromise1NewDesks(t *testing.T) {
	for _, line := range []string{"life", "trim", "mix 10000", "scale 0;0", "pays 7", "rates 7", "table 3f800000", "pays x", "x", ""} {
		for _, script := range []string{"", line + "\n", line + "\nscale 0,5;7,7\nx\n", "pays 5\n" + line + "\n"} {
			var calls []deskCall
			calls = append(calls, deskCall{"DeskCommand of " + line, nil, func(a *deskArguments) []any { return results(impl.DeskCommand(a.d, line)) }},
				deskCall{"RunDesk of " + script, nil, func(a *deskArguments) []any { return results(impl.RunDesk(a.d, script)) }},
				deskCall{"RunJournal of " + script, nil, func(a *deskArguments) []any {
					journal, _ := slowJournal(strings.Split(script, "\n"))
					return results(impl.RunJournal(a.d, journal))
				}})
			a := goodDeskArguments()
			a.makeRoomy()
			returnSame(t, calls, []*deskArguments{a})
			returnNew(t, calls, []*deskArguments{a})
		}
	}
}
