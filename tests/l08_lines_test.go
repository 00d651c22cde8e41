package tests

import (
	"fmt"
	"slices"
	"strings"
	"testing"

	"loop.example/g01393/impl"
)

// answers checks the output of a line, and the desk behind it.
func answers(t *testing.T, d impl.Desk, line, output string, after impl.Desk) {
	t.Helper()
	what := fmt.Sprintf("DeskCommand(%v, %q)", d, line)
	got, told, ok := impl.DeskCommand(d, line)
	isText(t, what, told, ok, output)
	isDesk(t, what, got, ok, after)
}

// Each line of the table that tells something, at a new desk.
func TestTellingLinesAtNewDesk(t *testing.T) {
	for line, want := range map[string]string{
		"scale": "0,1000;1000,2000", "pays": "100,250,400", "rates": "500,0,-500", "table": "3f000000,3f000000,3f800000",
		"due 1500 0": "200", "due 0 0": "0", "due 1000 3": "100", "due 1501 0": "200", "due 1501 1": "200", "due 1501 2": "200", "due 1501 3": "201",
		"due 5 0": "0", "due 5 1": "1", "due 5 2": "0", "due 5 3": "1", "due 15 2": "2", "due 1000000000000 0": "199999999900",
		"net 1500 0": "1300", "net 0 3": "0", "net 5 0": "5", "net 5 1": "4", "net 5 2": "5", "net 5 3": "4", "net 1000000000000 2": "800000000100",
		"gross 1300 0": "1499", "gross 1300 3": "1500", "gross 0 0": "0", "gross 9 0": "9", "gross 800000000100 3": "1000000000000",
		"mean 1500": "2,15", "mean 1": "1,10", "mean 1000": "1,10", "mean 1001": "501,5005",
		"rate 0": "1000", "rate 999": "1000", "rate 1000": "2000", "rate 1000000000000": "2000",
		"hold 0": "10,25,40", "hold 3": "10,25,40",
		"chain 2000 0": "20,30,30", "chain 0 0": "0,0,0", "chain 10000 3": "100,150,150", "chain 33 0": "0,0,1", "chain 33 3": "1,0,1",
		"share 75": "10,25,40", "share 0": "0,0,0", "share 1": "0,0,1", "share 1000000000": "133333334,333333333,533333333",
		"best 1": "400", "best 2": "325", "best 3": "250",
		"span 1": "2,400", "span 2": "1,650", "span 3": "0,750",
		"fund 100": "210,460,817", "fund 0": "105,355,717",
		"down 100 40": "63,23,0;2", "down 100 0": "105,105,99;3", "down 0 0": "0,0,0;3", "down 0 1": "0,0,0;0", "down 100 1000000000000": "0,0,0;0", "down 100 100": "0,0,0;1",
		"safe 100": "34", "safe 0": "0", "safe 2": "0", "safe 3": "1",
		"alive": "3f800000,3f000000,3e800000", "life": "3fa00000",
		"annuity 00000000": "3fe00000", "annuity 80000000": "3fe00000", "annuity 3f800000": "3fa80000",
	} {
		answers(t, newDesk(), line, want, newDesk())
	}
}

// Each line of the table that changes the desk, at a new desk.
func TestChangingLinesAtNewDesk(t *testing.T) {
	for line, after := range map[string]impl.Desk{
		"scale 0;0":                           withScale(0, 0),
		"scale 0,5;7,7":                       withScale(0, 7, 5, 7),
		"scale 0,7,1000000000000;10000,0,123": withScale(0, 10000, 7, 0, 1000000000000, 123),
		"scale 0,1000;1000,2000":              newDesk(),
		"pays 0":                              withPays(0),
		"pays 1000000000000,0,7":              withPays(1000000000000, 0, 7),
		"pays 1000000000000,1000000000000":    withPays(1000000000000, 1000000000000),
		"pays 100,250,400":                    newDesk(),
		"rates 10000":                         withRates(10000),
		"rates -9999,0,1,2":                   withRates(-9999, 0, 1, 2),
		"rates 500,0,-500":                    newDesk(),
		"table 3f800000":                      withTable(1),
		"table 80000000,00000000,3f800000":    withTable(minusZero(), 0, 1),
		"table 00000001,3f7fffff,3f800000":    withTable(number(bitsLeast), number(0x3f7fffff), 1),
		"table 3f000000,3f000000,3f800000":    newDesk(),
		"trim":                                newDesk(),
		"mix 10000":                           newDesk(),
		"mix 5000":                            withScale(0, 500, 1000, 1000),
		"mix 20000":                           withScale(0, 2000, 1000, 4000),
		"mix 3333":                            withScale(0, 333, 1000, 666),
		"mix 0":                               withScale(0, 0, 1000, 0),
	} {
		answers(t, newDesk(), line, "ok", after)
	}
}

func TestLinesAtOtherDesks(t *testing.T) {
	years := func(n int64, count int) impl.Desk { return withPays(slices.Repeat([]int64{n}, count)...) }
	// Trimmed are breaks that change nothing.
	answers(t, withScale(0, 7, 5, 7, 6, 8, 9, 8, 10, 7), "trim", "ok", withScale(0, 7, 6, 8, 10, 7))
	answers(t, withScale(0, 7), "trim", "ok", withScale(0, 7))
	answers(t, withScale(0, 5000, 7, 5001), "mix 20000", "no", withScale(0, 5000, 7, 5001))
	answers(t, withScale(0, 5000, 7, 5000), "mix 20000", "ok", withScale(0, 10000, 7, 10000))
	answers(t, withScale(0, 10000), "gross 0 0", "no", withScale(0, 10000))
	answers(t, withScale(0, 10000), "net 7 0", "0", withScale(0, 10000))
	// Lists of integers that have no text: the latter one is greater than MaxValue.
	odd := withScale(0, 1, 1, 3)
	answers(t, odd, "mean 99999999997", "299999999989,999999999970000", odd)
	answers(t, odd, "mean 100000000001", "no", odd)
	answers(t, odd, "mean 999999999999", "no", odd)
	answers(t, odd, "mean 1000000000000", "no", odd)
	answers(t, odd, "mean 1", "1,10000", odd)
	// Pays of which some functions take no more, or no such ones.
	answers(t, withPays(0), "share 1", "no", withPays(0))
	answers(t, withPays(0), "share 0", "no", withPays(0))
	answers(t, withPays(0), "hold 3", "0", withPays(0))
	answers(t, withPays(0, 1000000001), "share 5", "no", withPays(0, 1000000001))
	answers(t, withPays(0, 1000000000), "share 5", "0,5", withPays(0, 1000000000))
	answers(t, years(1, 12), "share 13", "2,1,1,1,1,1,1,1,1,1,1,1", years(1, 12))
	answers(t, years(1, 13), "share 13", "no", years(1, 13))
	answers(t, years(9, 16), "chain 10000 0", "9"+strings.Repeat(",0", 15), years(9, 16))
	answers(t, years(9, 17), "chain 10000 0", "no", years(9, 17))
	answers(t, years(5, 60), "hold 0", strings.Repeat("0,1,", 30)[:119], years(5, 60))
	answers(t, years(5, 60), "best 60", "5", years(5, 60))
	answers(t, withPays(1000000000000, 1), "hold 0", "no", withPays(1000000000000, 1))
	answers(t, withPays(1000000000000, 1), "span 2", "no", withPays(1000000000000, 1))
	answers(t, withPays(1000000000000, 1), "span 1", "0,1000000000000", withPays(1000000000000, 1))
	answers(t, withPays(1000000000000, 1), "best 2", "500000000000", withPays(1000000000000, 1))
	answers(t, withPays(100, 250), "fund 0", "no", withPays(100, 250))
	answers(t, withRates(0, 0), "fund 0", "no", withRates(0, 0))
	answers(t, withRates(0, 0, 0), "fund 1", "101,351,751", withRates(0, 0, 0))
	answers(t, withRates(0, 0), "down 100 50", "50,0;2", withRates(0, 0))
	answers(t, withRates(10000), "down 500000000000 0", "1000000000000;1", withRates(10000))
	answers(t, withRates(10000), "down 500000000001 0", "no", withRates(10000))
	answers(t, withRates(10000), "safe 1000000000", "1000000000", withRates(10000))
	answers(t, withTable(1), "alive", "3f800000", withTable(1))
	answers(t, withTable(1), "life", "3f000000", withTable(1))
	answers(t, withTable(1), "annuity 3c23d70a", "3f800000", withTable(1))
	answers(t, withTable(minusZero(), 1), "table", "80000000,3f800000", withTable(minusZero(), 1))
	answers(t, withTable(minusZero(), 1), "alive", "3f800000,3f800000", withTable(minusZero(), 1))
}

// Lines that have a form, but a word is not what it must be, or a function
// fails, or the desk would not be valid.
func TestLinesAnsweredWithNo(t *testing.T) {
	lines := []string{
		"due -1 0", "due 1000000000001 0", "due 1500 4", "due 1500 -1", "due 1500 ", "due  0", "due  ", "due N K", "due 1500 x", "due x 0", "due 0 1500",
		"net -1 0", "net 1000000000001 0", "net 1500 4", "gross -1 0", "gross 1000000000000 0", "gross 1300 4", "gross 800000000101 3",
		"mean 0", "mean -1", "mean 1000000000001", "mean ", "rate -1", "rate 1000000000001", "rate ", "mix -1", "mix 20001", "mix ", "mix x",
		"hold 4", "hold -1", "hold ", "chain 10001 0", "chain -1 0", "chain 2000 4", "chain 2000 ", "chain  0",
		"share -1", "share 1000000001", "share ", "best 0", "best 4", "best -1", "best ", "span 0", "span 4", "span -1", "span ",
		"fund -1", "fund 1000000000001", "fund 1000000000000", "fund 999999999999", "fund ",
		"down -1 0", "down 100 -1", "down 1000000000000 0", "down 1000000000001 1000000000000", "down 100 1000000000001", "down 100 ", "down  100",
		"safe -1", "safe 1000000001", "safe ", "annuity ", "annuity x", "annuity 0", "annuity none", "annuity 00000000,00000000", "annuity 80000001", "annuity 3f800001", "annuity 7fc00000", "annuity 7f800000", "annuity ff800000", "annuity bf800000",
		"scale ", "pays ", "rates ", "table ", "scale x", "pays x", "rates x", "table x", "scale none", "pays none", "rates none", "table none", "scale pays",
		"pays 1;2", "pays 100,250,", "pays 1000000000001", "pays -1", "pays 5,-1,5", "pays 01", "pays +1", "pays -0",
		"rates 10001", "rates -10000", "rates 0,10001", "rates 0,-10000,0", "rates 1,,2", "rates 0,1000;1000,2000",
		"table 3f000000", "table 3f800000,3f000000", "table 3f800001,3f800000", "table 80000001,3f800000", "table 7fc00000,3f800000", "table 3f800000,7fc00000", "table 7f800000,3f800000", "table 3F800000", "table 1", "table 0.5,1",
		"pays " + strings.Repeat("0,", 60) + "0", "pays " + strings.Repeat("0,", 64) + "0", "rates " + strings.Repeat("0,", 60) + "0", "table " + strings.Repeat("00000000,", 120) + "3f800000", "table " + strings.Repeat("00000000,", 256) + "3f800000",
	}
	for _, text := range noScaleTexts() {
		if !strings.Contains(text, " ") {
			lines = append(lines, "scale "+text)
		}
	}
	for _, word := range noDecimals() {
		lines = append(lines, "due "+word+" 0", "due 1500 "+word, "net "+word+" 0", "net 1500 "+word, "gross "+word+" 0", "gross 1300 "+word, "mean "+word, "rate "+word, "mix "+word, "hold "+word, "chain "+word+" 0", "chain 2000 "+word,
			"share "+word, "best "+word, "span "+word, "fund "+word, "down "+word+" 1", "down 100 "+word, "safe "+word)
	}
	for _, word := range noReals() {
		lines = append(lines, "annuity "+word)
	}
	for _, line := range lines {
		answers(t, newDesk(), line, "no", newDesk())
	}
	for _, line := range []string{"pays " + strings.Repeat("0,", 59) + "0", "rates " + strings.Repeat("0,", 59) + "0", "table " + strings.Repeat("00000000,", 119) + "3f800000"} {
		_, output, ok := impl.DeskCommand(newDesk(), line)
		isText(t, fmt.Sprintf("as many as there may be: %q", line), output, ok, "ok")
	}
}

// Lines of no form: empty ones, those with too few or too many words, with
// blanks in front, behind or twice, and with first words that begin others.
func TestLinesAnsweredWithWhat(t *testing.T) {
	lines := append(noLines(), "due", "due 1500", "due 1500 0 0", "due 1500  0", " due 1500 0", "due 1500 0 ", "du 1500 0", "dues 1500 0", "Due 1500 0", "due\t1500 0", "due1500 0", "due,1500,0",
		"net 1500", "gross 1300", "mean", "mean 1 2", "rate", "rate 1 2", "rat 1", "trim 1", "trim ", "trims", "tri", "mix", "mix 1 2", "hold", "hold 0 0", "chain 2000", "chain", "share", "share 75 0", "best", "best 1 1", "span", "span 1 1",
		"fund", "fund 100 0", "down 100", "down", "down 100 40 0", "safe", "safe 100 0", "alive ", "alive 1", "life ", "life 0", "annuity", "annuity 00000000 00000000",
		"scale 0;0 ", "scale  0;0", "scale 0 0", "scal", "pay", "pays 1 2", "pays  ", "rates 0 0", "tables", "table  ", "life\n", "\nlife", "life\nlife", "life\r", "ok", "no", "what", "N", "TEXT", "none")
	for _, line := range lines {
		answers(t, newDesk(), line, "what", newDesk())
	}
}

// All lines do at all desks what a table by patterns tells.
func TestLinesByPatterns(t *testing.T) {
	lines, desks := deskLines(), goodDesks()
	counts := map[string]int{}
	for i, d := range desks {
		for k, line := range lines {
			if i > 0 && (i+k)%7 > 0 && len(line) > 8 {
				continue
			}
			after, want := slowAnswer(d, line)
			answers(t, d, line, want, after)
			counts[want]++
		}
	}
	isTrue(t, fmt.Sprintf("there are outputs of many kinds: %d", len(counts)), len(counts) > 3000 && counts["no"] > 10000 && counts["what"] > 10000 && counts["ok"] > 1000)
}

// A line that changes one part leaves the others.
func TestLinesThatSetParts(t *testing.T) {
	desks := goodDesks()
	for i, d := range desks {
		other := desks[(i+1)%len(desks)]
		pays, _ := slowListText(other.Pays, true)
		rates, _ := slowListText(other.Rates, true)
		table, _ := slowRealsText(other.Table, true)
		answers(t, d, "scale "+slowScaleText(other.Scale), "ok", deskOf(other.Scale, d.Pays, d.Rates, d.Table...))
		answers(t, d, "pays "+pays, "ok", deskOf(d.Scale, other.Pays, d.Rates, d.Table...))
		answers(t, d, "rates "+rates, "ok", deskOf(d.Scale, d.Pays, other.Rates, d.Table...))
		answers(t, d, "table "+table, "ok", deskOf(d.Scale, d.Pays, d.Rates, other.Table...))
	}
}

func TestDeskCommandAtInvalidDesks(t *testing.T) {
	for _, d := range badDesks() {
		for _, line := range []string{"life", "alive", "scale 0;0", "pays 0", "rates 0", "table 3f800000", "due 1 0", "trim", "", "x"} {
			isNone(t, fmt.Sprintf("DeskCommand(%v, %q)", d, line), results(impl.DeskCommand(d, line)))
		}
	}
}

// runs checks the outputs of a script at a new desk, and the desk behind it.
func runs(t *testing.T, script, outputs string, after impl.Desk) {
	t.Helper()
	what := fmt.Sprintf("RunDesk(%.200q)", script)
	got, told, ok := impl.RunDesk(newDesk(), script)
	isText(t, what, told, ok, outputs)
	isDesk(t, what, got, ok, after)
}

func TestRunDesk(t *testing.T) {
	runs(t, "", "", newDesk())
	runs(t, "\n", "what\n", newDesk())
	runs(t, "\n\n", "what\nwhat\n", newDesk())
	runs(t, "life\n", "3fa00000\n", newDesk())
	runs(t, "life\r\n", "what\n", newDesk())
	runs(t, "\nlife\n\n", "what\n3fa00000\nwhat\n", newDesk())
	runs(t, "due 1500 0\nshare 75\nlife\n", "200\n10,25,40\n3fa00000\n", newDesk())
	// Each line is carried out at the desk behind the one before.
	runs(t, "pays 1,2\npays\nbest 1\npays 0\nbest 1\n", "ok\n1,2\n2\nok\n0\n", withPays(0))
	runs(t, "mix 5000\nmix 5000\nscale\nmix 20001\nscale\n", "ok\nok\n0,1000;250,500\nno\n0,1000;250,500\n", withScale(0, 250, 1000, 500))
	runs(t, "scale 0,5;7,7\ntrim\nscale\ntrim\n", "ok\nok\n0;7\nok\n", withScale(0, 7))
	runs(t, "rates 0\nfund 0\npays 7\nfund 0\n", "ok\nno\nok\n7\n", deskOf(newDesk().Scale, []int64{7}, []int64{0}, 0.5, 0.5, 1))
	runs(t, "table 3f000000\ntable x\nwhat\ntable 3f800000\nlife\n", "no\nno\nwhat\nok\n3f000000\n", withTable(1))
}

func TestRunDeskOfLongScripts(t *testing.T) {
	const most = impl.MaxScript
	runs(t, strings.Repeat("\n", most), strings.Repeat("what\n", most), newDesk())
	runs(t, strings.Repeat("x", most-1)+"\n", "what\n", newDesk())
	// Outputs may be longer than scripts.
	runs(t, strings.Repeat("life\n", most/5), strings.Repeat("3fa00000\n", most/5), newDesk())
	long := "table " + strings.Repeat("00000000,", 119) + "3f800000\n"
	script := long + strings.Repeat("alive\n", (most-len(long))/6)
	outputs := "ok\n" + strings.Repeat(strings.Repeat("3f800000,", 119)+"3f800000\n", (most-len(long))/6)
	runs(t, script, outputs, withTable(append(make([]float32, 119), 1)...))
	isTrue(t, "outputs are longer than scripts", len(script) <= most && len(outputs) > 100*most)
	for _, script := range []string{strings.Repeat("\n", most+1), strings.Repeat("x", most) + "\n", strings.Repeat("life\n", most/5) + "\n", strings.Repeat("life\n", most), strings.Repeat("x", most+1)} {
		isNone(t, fmt.Sprintf("RunDesk of %d bytes", len(script)), results(impl.RunDesk(newDesk(), script)))
	}
}

func TestRunDeskOfOtherScripts(t *testing.T) {
	for _, script := range []string{"life", "x", " ", "\x00", "life\nlife", "\nx", "\n ", "life\n\r", "life\n\x00", "life\r", "life\\n", strings.Repeat("x", impl.MaxScript), strings.Repeat("life\n", impl.MaxScript/5-1) + "life "} {
		isNone(t, fmt.Sprintf("RunDesk(%.100q)", script), results(impl.RunDesk(newDesk(), script)))
	}
	for _, d := range badDesks() {
		for _, script := range []string{"", "life\n", "scale 0;0\npays 0\nrates 0\ntable 3f800000\n"} {
			isNone(t, fmt.Sprintf("RunDesk(%v, %q)", d, script), results(impl.RunDesk(d, script)))
		}
	}
}

func TestCountOutputs(t *testing.T) {
	const most = impl.MaxScript
	for _, c := range []struct {
		text         string
		refused, all int64
	}{
		{"", 0, 0},
		{"\n", 0, 1},
		{"\n\n\n", 0, 3},
		{"no\n", 1, 1},
		{"what\n", 1, 1},
		{"ok\n", 0, 1},
		{"no\nwhat\nok\nno\n", 3, 4},
		{"no\n\nno\n", 2, 3},
		{"200\n10,25,40\n3fa00000\n", 0, 3},
		{"no \n no\nno no\nnow\nnow what\nwhatever\nwhat \n what\nwhats\nNo\nWHAT\nn\no\nwha\nhat\n-no\nno\r\n\x00no\nno\x00\n", 0, 19},
		{"nowhat\nwhatno\nno,what\nnone\n", 0, 4},
		{strings.Repeat("no\n\n", most/4), most / 4, most / 2},
		{strings.Repeat("what\n", most/5), most / 5, most / 5},
		{strings.Repeat("\n", most), 0, most},
		{strings.Repeat("x", most-1) + "\n", 0, 1},
		{strings.Repeat("x", most-4) + "\nno\n", 1, 2},
	} {
		refused, others, ok := impl.CountOutputs(c.text)
		isList(t, fmt.Sprintf("CountOutputs(%.200q)", c.text), []int64{refused, others}, ok, c.refused, c.all-c.refused)
	}
	for _, text := range []string{"no", "what", "ok", " ", "x", "\x00", "no\nno", "ok\nwhat", "\nno", "no\n ", "no\n\r", "no\r", strings.Repeat("\n", most+1), strings.Repeat("x", most) + "\n", strings.Repeat("no\n", most), strings.Repeat("x", most), strings.Repeat("\n", most-1) + "x"} {
		isNone(t, fmt.Sprintf("CountOutputs(%.200q)", text), results(impl.CountOutputs(text)))
	}
}
