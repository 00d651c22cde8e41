package tests

import (
	"math"
	"slices"
	"strings"
	"testing"

	"loop.example/g01393/impl"
)

// deskArguments has one argument of each kind that functions of chapter 8 take.
type deskArguments struct {
	d, other        impl.Desk
	s               impl.Scale
	text            string // of a scale
	line            string
	script, outputs string
	lines           []string
	journal         string
}

type deskCall = argumentCall[*deskArguments]

func callsOfChapter8() []deskCall {
	return []deskCall{
		{"ValidDesk", []string{"d"}, func(a *deskArguments) []any { return results(impl.ValidDesk(a.d)) }},
		{"ScaleText", []string{"s"}, func(a *deskArguments) []any { return results(impl.ScaleText(a.s)) }},
		{"ReadScale", []string{"text"}, func(a *deskArguments) []any { return results(impl.ReadScale(a.text)) }},
		{"DeskCommand", []string{"d"}, func(a *deskArguments) []any { return results(impl.DeskCommand(a.d, a.line)) }},
		{"RunDesk", []string{"d", "script"}, func(a *deskArguments) []any { return results(impl.RunDesk(a.d, a.script)) }},
		{"CountOutputs", []string{"outputs"}, func(a *deskArguments) []any { return results(impl.CountOutputs(a.outputs)) }},
		{"JournalOf", []string{"lines"}, func(a *deskArguments) []any { return results(impl.JournalOf(a.lines)) }},
		{"RecoverJournal", []string{"journal"}, func(a *deskArguments) []any { return results(impl.RecoverJournal(a.journal)) }},
		{"RunJournal", []string{"d", "journal"}, func(a *deskArguments) []any { return results(impl.RunJournal(a.d, a.journal)) }},
	}
}

// goodDeskArguments has arguments for which every function of chapter 8 succeeds.
func goodDeskArguments() *deskArguments {
	lines := []string{"pays 5,6", "best 1", ""}
	journal, _ := slowJournal(lines)
	return &deskArguments{
		d: newDesk(), other: withPays(5), s: scaleWith(0, 7, 5, 8), text: "0,5;7,7", line: "mix 5000",
		script: "mix 5000\nscale\nx\n", outputs: "ok\nno\nwhat\n", lines: lines, journal: journal,
	}
}

// spoiledDeskArguments has for each argument changes by which it is not as it must be.
func spoiledDeskArguments() map[string][]func(*deskArguments) {
	all := map[string][]func(*deskArguments){}
	spoil := func(argument string, change func(a *deskArguments)) { all[argument] = append(all[argument], change) }
	for _, bad := range badDesks() {
		spoil("d", func(a *deskArguments) { a.d = bad })
	}
	for _, bad := range badScales() {
		spoil("s", func(a *deskArguments) { a.s = bad })
		spoil("d", func(a *deskArguments) { a.d.Scale = bad })
	}
	for _, n := range []int64{-1, impl.MaxCents + 1, math.MinInt64, math.MaxInt64} {
		spoil("d", func(a *deskArguments) { a.d.Pays[2] = n })
	}
	for _, n := range []int64{-10000, 10001, math.MinInt64, math.MaxInt64} {
		spoil("d", func(a *deskArguments) { a.d.Rates[0] = n })
	}
	for _, x := range badChances() {
		spoil("d", func(a *deskArguments) { a.d.Table[1] = x })
	}
	for _, bad := range noScaleTexts() {
		spoil("text", func(a *deskArguments) { a.text = bad })
	}
	for _, bad := range []string{"x", "life", "life\n ", " ", "\nlife", strings.Repeat("\n", impl.MaxScript+1), strings.Repeat("x", impl.MaxScript) + "\n", strings.Repeat("life\n", 100000)} {
		spoil("script", func(a *deskArguments) { a.script = bad })
		spoil("outputs", func(a *deskArguments) { a.outputs = bad })
	}
	for _, bad := range []string{"\n", "a\n", "\na", "a\nb", strings.Repeat("x", impl.MaxScript), strings.Repeat("x", 1000000)} {
		spoil("lines", func(a *deskArguments) { a.lines = []string{bad} })
		spoil("lines", func(a *deskArguments) { a.lines[1] = bad })
		spoil("lines", func(a *deskArguments) { a.lines[2] = bad })
	}
	spoil("lines", func(a *deskArguments) { a.lines = make([]string, impl.MaxScript) })
	for _, bad := range []string{strings.Repeat("\n", impl.MaxScript+1), strings.Repeat("0 \n", impl.MaxScript), strings.Repeat("x", 1000000)} {
		spoil("journal", func(a *deskArguments) { a.journal = bad })
		spoil("journal", func(a *deskArguments) { a.journal += bad })
	}
	return all
}

// Every function fails for each argument that is not as its section requires,
// with zero values, and succeeds for good ones.
func TestChapter8InvalidArguments(t *testing.T) {
	spoilAll(t, callsOfChapter8(), spoiledDeskArguments(), goodDeskArguments)
	// What is spoiled matters too where nothing is carried out.
	spoilAll(t, callsOfChapter8(), spoiledDeskArguments(), func() *deskArguments {
		a := goodDeskArguments()
		a.line, a.script, a.journal, a.outputs = "", "", "", ""
		return a
	})
}

// Limits can be reached exactly: every function succeeds at them.
func TestChapter8OutmostArguments(t *testing.T) {
	const most, years = impl.MaxCents, impl.MaxService
	allSucceed(t, callsOfChapter8(), []func(*deskArguments){
		func(a *deskArguments) { a.d, a.s, a.text = withScale(0, 0), scaleWith(0, 0), "0;0" },
		func(a *deskArguments) {
			a.d.Scale, a.s, a.text = mostBreaks(), mostBreaks(), slowScaleText(mostBreaks())
		},
		func(a *deskArguments) { a.d = deskOf(scaleWith(0, 10000), []int64{0}, []int64{-9999}, 1) },
		func(a *deskArguments) {
			a.d.Pays, a.d.Rates = slices.Repeat([]int64{most}, years), slices.Repeat([]int64{10000}, years)
		},
		func(a *deskArguments) { a.d.Table = slices.Repeat([]float32{1}, impl.MaxLife) },
		func(a *deskArguments) { a.d.Table[0], a.d.Table[1] = minusZero(), 1 },
		func(a *deskArguments) { a.line, a.script, a.outputs, a.lines, a.journal = "", "", "", nil, "" },
		func(a *deskArguments) { a.line = strings.Repeat("x ", 100000) },
		func(a *deskArguments) { a.line = "pays " + strings.Repeat("9", 1000000) },
		func(a *deskArguments) {
			a.script, a.outputs = strings.Repeat("\n", impl.MaxScript), strings.Repeat("\n", impl.MaxScript)
		},
		func(a *deskArguments) {
			a.script, a.outputs = strings.Repeat("x", impl.MaxScript-1)+"\n", strings.Repeat("x", impl.MaxScript-1)+"\n"
		},
		func(a *deskArguments) {
			a.lines = fullJournal(0)
			a.journal, _ = slowJournal(a.lines)
		},
		func(a *deskArguments) { a.journal = strings.Repeat("x", impl.MaxScript) },
	}, goodDeskArguments)
}
