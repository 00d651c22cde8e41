package tests

import (
	"fmt"
	"slices"
	"strings"
	"testing"

	"loop.example/g01393/impl"
)

// Promise 9: a desk outputs what the functions tell, and its journal is
// recovered as far as it is intact.

// script returns any lines of a desk, most of which are not refused.
func (g *lcg) script(count int64, lines []string) []string {
	var all []string
	desks := promisedDesks()
	for range count {
		d := desks[g.below(int64(len(desks)-1))]
		pays, _ := slowListText(d.Pays, true)
		rates, _ := slowListText(d.Rates, true)
		table, _ := slowRealsText(d.Table[len(d.Table)-min(5, len(d.Table)):], true)
		switch g.below(9) {
		case 0:
			all = append(all, "scale "+slowScaleText(d.Scale))
		case 1:
			all = append(all, "pays "+pays)
		case 2:
			all = append(all, "rates "+rates)
		case 3:
			all = append(all, "table "+table)
		case 4:
			all = append(all, g.anyText([]string{"trim", "mix 5000", "mix 9999", "mix 20000", "mix 0", "mix 20001"}))
		default:
			all = append(all, g.anyText(lines))
		}
	}
	return all
}

// promisedDesks has some desks whose parts have short texts.
func promisedDesks() []impl.Desk {
	return slices.DeleteFunc(goodDesks(), func(d impl.Desk) bool {
		return len(d.Pays) > 12 || len(d.Rates) > 12 || len(d.Table) > 12
	})
}

// shortLines has lines that fit into scripts.
func shortLines() []string {
	return slices.DeleteFunc(deskLines(), func(line string) bool { return len(line) > 40 || strings.Contains(line, "\n") })
}

func scriptOf(lines []string) string {
	if len(lines) == 0 {
		return ""
	}
	return strings.Join(lines, "\n") + "\n"
}

// A script does what its lines do one after another, and outputs what they do.
func TestPromise9LineByLine(t *testing.T) {
	g, lines := lcg(261), shortLines()
	changed, counted := 0, map[bool]int64{}
	for i, d := range promisedDesks() {
		script := g.script(g.one(1, 5, 40), lines)
		now, slow, outputs := d, d, ""
		refused := int64(0)
		for _, line := range script {
			next, output, ok := impl.DeskCommand(now, line)
			after, want := slowAnswer(slow, line)
			isText(t, fmt.Sprintf("DeskCommand(%v, %q)", now, line), output, ok, want)
			isDesk(t, fmt.Sprintf("DeskCommand(%v, %q)", now, line), next, impl.ValidDesk(next), after)
			if output == "no" || output == "what" {
				refused++
				isDesk(t, fmt.Sprintf("the line %q changes nothing", line), next, impl.SameDesk(next, now), now)
			}
			now, slow, outputs = next, after, outputs+want+"\n"
		}
		what := fmt.Sprintf("RunDesk(%v, %q)", d, script)
		got, told, ok := impl.RunDesk(d, scriptOf(script))
		isText(t, what, told, ok, outputs)
		isDesk(t, what, got, ok, now)
		if len(outputs) <= impl.MaxScript {
			bad, good, ok := impl.CountOutputs(outputs)
			isList(t, fmt.Sprintf("CountOutputs(%q)", outputs), []int64{bad, good}, ok, refused, int64(len(script))-refused)
			counted[true], counted[false] = counted[true]+bad, counted[false]+good
		}
		if !sameDesk(got, d) {
			changed++
		}
		isTrue(t, fmt.Sprintf("the desk %d is valid", i), impl.ValidDesk(got))
	}
	isTrue(t, fmt.Sprintf("many desks are changed: %d, %v", changed, counted), changed > 100 && counted[true] > 500 && counted[false] > 500)
}

// Cut behind any line, both parts do what the whole script does.
func TestPromise9CutScripts(t *testing.T) {
	g, lines := lcg(262), shortLines()
	for _, d := range promisedDesks()[:80] {
		script := g.script(20, lines)
		whole, outputs, ok := impl.RunDesk(d, scriptOf(script))
		for cut := range len(script) + 1 {
			half, first, one := impl.RunDesk(d, scriptOf(script[:cut]))
			rest, second, two := impl.RunDesk(half, scriptOf(script[cut:]))
			what := fmt.Sprintf("RunDesk(%v, %q) cut at %d", d, script, cut)
			isText(t, what, first+second, ok && one && two, outputs)
			isDesk(t, what, rest, impl.SameDesk(rest, whole), whole)
		}
	}
}

// Lines that are answered with no or what can be left out.
func TestPromise9RefusedLinesChangeNothing(t *testing.T) {
	g, lines := lcg(263), shortLines()
	left := 0
	for _, d := range promisedDesks()[:150] {
		script := g.script(25, lines)
		whole, outputs, _ := impl.RunDesk(d, scriptOf(script))
		var kept []string
		for i, output := range strings.Split(strings.TrimSuffix(outputs, "\n"), "\n") {
			if output != "no" && output != "what" {
				kept = append(kept, script[i])
			}
		}
		got, told, ok := impl.RunDesk(d, scriptOf(kept))
		isDesk(t, fmt.Sprintf("RunDesk(%v, %q) without refused lines", d, script), got, ok, whole)
		bad, good, ok := impl.CountOutputs(told)
		isList(t, fmt.Sprintf("CountOutputs(%q)", told), []int64{bad, good}, ok, 0, int64(len(kept)))
		left += len(script) - len(kept)
	}
	isTrue(t, fmt.Sprintf("many lines are refused: %d", left), left > 500)
}

// What a desk tells of its parts makes the same desk of any other one.
func TestPromise9DeskIsReadBack(t *testing.T) {
	for i, d := range goodDesks() {
		script := ""
		for _, part := range []string{"scale", "pays", "rates", "table"} {
			_, output, ok := impl.DeskCommand(d, part)
			isTrue(t, fmt.Sprintf("DeskCommand(%v, %q)", d, part), ok)
			script += part + " " + output + "\n"
		}
		for _, other := range []impl.Desk{newDesk(), d, goodDesks()[i*13%100]} {
			got, outputs, ok := impl.RunDesk(other, script)
			isText(t, fmt.Sprintf("RunDesk(%v, %q)", other, script), outputs, ok, "ok\nok\nok\nok\n")
			isDesk(t, fmt.Sprintf("RunDesk(%v, %q)", other, script), got, impl.SameDesk(got, d), d)
		}
	}
}

// Texts are read back to the last bit, whatever they tell.
func TestPromise9TextsAreReadBack(t *testing.T) {
	g := lcg(264)
	for _, s := range goodScales() {
		text, one := impl.ScaleText(s)
		back, two := impl.ReadScale(text)
		isScale(t, fmt.Sprintf("ReadScale(%q)", text), back, one && two && impl.SameScale(s, back), s)
	}
	for range 400 {
		var numbers []float32
		var complexes []complex64
		var integers []int64
		for range g.below(g.one(1, 5, impl.MaxItems)) {
			numbers = append(numbers, number(g.bits()), g.chance(), specials()[g.below(28)])
			complexes = append(complexes, pair(g.bits(), g.bits()), complex(specials()[g.below(28)], specials()[g.below(28)]))
			integers = append(integers, g.one(1, -1)*g.below(g.one(9, 1000000, impl.MaxValue)))
		}
		text, one := impl.NumbersText(numbers)
		back, two := impl.ReadNumbers(text)
		isReals(t, fmt.Sprintf("ReadNumbers(%q)", text), back, one && two, numbers...)
		text, one = impl.ListText(integers)
		list, two := impl.ReadList(text)
		isList(t, fmt.Sprintf("ReadList(%q)", text), list, one && two, integers...)
		text, one = impl.ComplexText(complexes)
		turned, two := impl.ReadComplex(text)
		isTrue(t, fmt.Sprintf("ReadComplex(%q)", text), one && two && slices.EqualFunc(turned, complexes, impl.SameComplex))
	}
	for _, rules := range goodRules() {
		text, one := impl.RulesText(rules)
		back, two := impl.ReadRules(text)
		isRuleList(t, fmt.Sprintf("ReadRules(%q)", text), back, one && two, rules...)
	}
}

// Scales that differ have texts that differ.
func TestPromise9TextsTellScalesApart(t *testing.T) {
	seen := map[string]impl.Scale{}
	g := lcg(265)
	for range 3000 {
		var s impl.Scale
		at := int64(0)
		for range 1 + g.below(impl.MaxBreaks-1) {
			s.Breaks, s.Rates = append(s.Breaks, at), append(s.Rates, g.below(g.one(2, 20, 10000)))
			at += 1 + g.below(g.one(1, 15, 100000))
		}
		text, ok := impl.ScaleText(s)
		back, alsoOK := impl.ReadScale(text)
		isScale(t, fmt.Sprintf("ReadScale(%q)", text), back, ok && alsoOK, s)
		other, isThere := seen[text]
		isTrue(t, fmt.Sprintf("%v and %v have the text %q", s, other, text), !isThere || impl.SameScale(s, other))
		seen[text] = s
	}
	isTrue(t, "there are many texts", len(seen) > 2000)
}

// journalsToBreak has lists of lines whose journals can be changed at every byte.
func journalsToBreak() [][]string {
	return [][]string{
		{""},
		{"", "", ""},
		{"life", "life", "life"},
		{"pays 1,2", "pays", "scale 0,5;7,7", "trim", "mix 5000", "", "what", "table x", "rates 0"},
		{" ", "0 0", "5", "326 a", "\x00\xff", "a  b ", "\r"},
		{"table 80000000,3f800000", "alive", strings.Repeat("x", 70), "life"},
	}
}

// isRecoveredAhead checks that the lines ahead of a byte are recovered, and lead to the desk that they lead to.
func isRecoveredAhead(t *testing.T, what, text string, lines []string, ends []int, at int) {
	t.Helper()
	ahead, length := 0, 0
	for ahead < len(ends) && ends[ahead] <= at {
		length = ends[ahead]
		ahead++
	}
	got, n, ok := impl.RecoverJournal(text)
	journal, alsoOK := impl.JournalOf(got)
	if !ok || !alsoOK || !slices.Equal(got, lines[:ahead]) || int(n) != length || journal != text[:length] {
		t.Errorf("RecoverJournal of %q, %s at %d: got %q and %d, want %q and %d", text, what, at, got, n, lines[:ahead], length)
	}
	want, _, _ := impl.RunDesk(newDesk(), scriptOf(lines[:ahead]))
	after, count, ok := impl.RunJournal(newDesk(), text)
	isDesk(t, fmt.Sprintf("RunJournal of %q, %s at %d", text, what, at), after, ok && int(count) == ahead, want)
}

func TestPromise9JournalCutAnywhere(t *testing.T) {
	for _, lines := range journalsToBreak() {
		journal, ends := slowJournal(lines)
		for at := range len(journal) + 1 {
			isRecoveredAhead(t, "cut", journal[:at], lines, ends, at)
			if at == 0 || journal[at-1] == '\n' {
				isRecoveredAhead(t, "cut, with a newline behind it", journal[:at]+"\n", lines, ends, at)
			}
		}
	}
}

func TestPromise9JournalChangedAnywhere(t *testing.T) {
	for _, lines := range journalsToBreak() {
		journal, ends := slowJournal(lines)
		for at := range len(journal) {
			for change := range 255 {
				bytes := []byte(journal)
				bytes[at] ^= byte(change + 1)
				isRecoveredAhead(t, "changed", string(bytes), lines, ends, at)
			}
		}
	}
}

// The whole journal leads to the same desk as the lines.
func TestPromise9JournalLeadsToTheSameDesk(t *testing.T) {
	g, short := lcg(266), shortLines()
	for _, d := range promisedDesks() {
		lines := g.script(g.one(1, 5, 30), short)
		journal, ok := impl.JournalOf(lines)
		back, n, alsoOK := impl.RecoverJournal(journal)
		what := fmt.Sprintf("RecoverJournal(%q)", journal)
		isTexts(t, what, back, ok && alsoOK, lines)
		isInt(t, what, n, int64(len(journal)))
		want, _, _ := impl.RunDesk(d, scriptOf(lines))
		after, count, ok := impl.RunJournal(d, journal)
		isDesk(t, fmt.Sprintf("RunJournal(%v, %q)", d, journal), after, ok && int(count) == len(lines), want)
	}
}
