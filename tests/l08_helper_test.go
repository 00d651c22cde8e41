package tests

import (
	"fmt"
	"math"
	"regexp"
	"slices"
	"strconv"
	"strings"
	"testing"

	"loop.example/g01393/impl"
)

func deskOf(s impl.Scale, pays, rates []int64, table ...float32) impl.Desk {
	return impl.Desk{Scale: s, Pays: pays, Rates: rates, Table: table}
}

// newDesk is written out, without the package under test.
func newDesk() impl.Desk {
	return deskOf(scaleWith(0, 1000, 1000, 2000), []int64{100, 250, 400}, []int64{500, 0, -500}, 0.5, 0.5, 1)
}

// The following desks differ from a new one in one part.

func withScale(numbers ...int64) impl.Desk {
	d := newDesk()
	d.Scale = scaleWith(numbers...)
	return d
}

func withPays(pays ...int64) impl.Desk {
	d := newDesk()
	d.Pays = pays
	return d
}

func withRates(rates ...int64) impl.Desk {
	d := newDesk()
	d.Rates = rates
	return d
}

func withTable(table ...float32) impl.Desk {
	d := newDesk()
	d.Table = table
	return d
}

func sameDesk(a, b impl.Desk) bool {
	return slices.Equal(a.Scale.Breaks, b.Scale.Breaks) && slices.Equal(a.Scale.Rates, b.Scale.Rates) &&
		slices.Equal(a.Pays, b.Pays) && slices.Equal(a.Rates, b.Rates) && sameReals(a.Table, b.Table)
}

func isDesk(t *testing.T, what string, got impl.Desk, ok bool, want impl.Desk) {
	t.Helper()
	if !ok || !sameDesk(got, want) {
		t.Errorf("%s: got the desk %v %v, want %v", what, got, ok, want)
	}
}

func isText(t *testing.T, what, got string, ok bool, want string) {
	t.Helper()
	if !ok || got != want {
		t.Errorf("%s: got %q %v, want %q", what, got, ok, want)
	}
}

func isTexts(t *testing.T, what string, got []string, ok bool, want []string) {
	t.Helper()
	if !ok || !slices.Equal(got, want) {
		t.Errorf("%s: got %q %v, want %q", what, got, ok, want)
	}
}

// yearPays has pays of all numbers of years, as many as some lines take at
// most, and one more; some of them are 0, and some the greatest amounts.
func yearPays() [][]int64 {
	const most = impl.MaxCents
	all := [][]int64{
		{0}, {1}, {most}, {0, 0, 0}, {most, most}, {0, 7, 0}, {5, 5, 5}, {most, 0, 1}, {1000000000, 0}, {1000000001, 1}, {333333333333, 333333333333, 333333333334},
		slices.Repeat([]int64{10}, impl.MaxPlaces), slices.Repeat([]int64{10}, impl.MaxPlaces+1),
		slices.Repeat([]int64{1000}, impl.MaxStages), slices.Repeat([]int64{1000}, impl.MaxStages+1),
		slices.Repeat([]int64{7}, impl.MaxService), make([]int64, impl.MaxService), slices.Repeat([]int64{most}, impl.MaxService),
	}
	g := lcg(231)
	for range 40 {
		all = append(all, g.list(g.one(3, 5, 13, impl.MaxService), g.one(1, 9, 1000, 1000000000, most)))
	}
	return all
}

// badYearPays has lists that are no pays of years, each for one reason.
func badYearPays() [][]int64 {
	return append(badPays([]int64{100, 250, 400}), nil, []int64{}, []int64{-1}, []int64{impl.MaxCents + 1})
}

// goodDesks has desks with parts of all kinds, one by one and all together.
func goodDesks() []impl.Desk {
	scales, pays, rates, tables := goodScales(), yearPays(), fundRates(), goodLives()
	all := []impl.Desk{newDesk()}
	for _, s := range scales {
		d := newDesk()
		d.Scale = s
		all = append(all, d)
	}
	for i, list := range pays {
		years := slices.Repeat([]int64{0, int64(i), -300}, impl.MaxService)[:len(list)] // as many rates as pays
		all = append(all, withPays(list...), deskOf(scales[i%len(scales)], list, years, 1))
	}
	for _, list := range rates {
		all = append(all, withRates(list...))
	}
	for _, table := range tables {
		all = append(all, withTable(table...))
	}
	g := lcg(232)
	for range 60 {
		all = append(all, deskOf(scales[g.below(int64(len(scales)-1))], pays[g.below(int64(len(pays)-1))], rates[g.below(int64(len(rates)-1))], tables[g.below(int64(len(tables)-1))]...))
	}
	return all
}

// badDesks has desks each of which has one part that is not valid.
func badDesks() []impl.Desk {
	var all []impl.Desk
	for _, s := range badScales() {
		d := newDesk()
		d.Scale = s
		all = append(all, d)
	}
	for _, list := range badYearPays() {
		all = append(all, withPays(list...))
	}
	for _, list := range badFundRates() {
		all = append(all, withRates(list...))
	}
	for _, table := range badLives() {
		all = append(all, withTable(table...))
	}
	return append(all, impl.Desk{})
}

// slowWords has what the words of a line tell: N, K, X and TEXT.
type slowWords struct {
	n, k int64
	x    float32
	text string
}

// slowForm is a line as the table of the document has it, and what it does.
type slowForm struct {
	form string
	do   func(d *impl.Desk, w slowWords) (string, bool)
}

// slowForms has the table of the document, line by line.
func slowForms() []slowForm {
	return []slowForm{
		{"scale TEXT", func(d *impl.Desk, w slowWords) (ok string, valid bool) {
			d.Scale, valid = impl.ReadScale(w.text)
			return "ok", valid
		}},
		{"pays TEXT", func(d *impl.Desk, w slowWords) (ok string, valid bool) {
			d.Pays, valid = impl.ReadList(w.text)
			return "ok", valid
		}},
		{"rates TEXT", func(d *impl.Desk, w slowWords) (ok string, valid bool) {
			d.Rates, valid = impl.ReadList(w.text)
			return "ok", valid
		}},
		{"table TEXT", func(d *impl.Desk, w slowWords) (ok string, valid bool) {
			d.Table, valid = impl.ReadNumbers(w.text)
			return "ok", valid
		}},
		{"trim", func(d *impl.Desk, w slowWords) (ok string, valid bool) {
			d.Scale, valid = impl.TrimScale(d.Scale)
			return "ok", valid
		}},
		{"mix N", func(d *impl.Desk, w slowWords) (ok string, valid bool) {
			d.Scale, valid = impl.MixScale(d.Scale, w.n)
			return "ok", valid
		}},
		{"scale", func(d *impl.Desk, w slowWords) (string, bool) {
			return slowScaleText(d.Scale), true
		}},
		{"pays", func(d *impl.Desk, w slowWords) (string, bool) { return slowListText(d.Pays, true) }},
		{"rates", func(d *impl.Desk, w slowWords) (string, bool) { return slowListText(d.Rates, true) }},
		{"table", func(d *impl.Desk, w slowWords) (string, bool) { return slowRealsText(d.Table, true) }},
		{"due N K", func(d *impl.Desk, w slowWords) (string, bool) { return slowDecimal(impl.DueOf(d.Scale, w.n, w.k)) }},
		{"net N K", func(d *impl.Desk, w slowWords) (string, bool) { return slowDecimal(impl.NetOf(d.Scale, w.n, w.k)) }},
		{"gross N K", func(d *impl.Desk, w slowWords) (string, bool) { return slowDecimal(impl.GrossOf(d.Scale, w.n, w.k)) }},
		{"mean N", func(d *impl.Desk, w slowWords) (string, bool) {
			above, below, ok := impl.MeanRate(d.Scale, w.n)
			return slowListText([]int64{above, below}, ok)
		}},
		{"rate N", func(d *impl.Desk, w slowWords) (string, bool) { return slowDecimal(impl.RateAt(d.Scale, w.n)) }},
		{"hold K", func(d *impl.Desk, w slowWords) (string, bool) {
			return slowListText(impl.WithholdSums(d.Scale, d.Pays, w.k))
		}},
		{"chain N K", func(d *impl.Desk, w slowWords) (string, bool) {
			return slowListText(impl.ChainDues(d.Pays, w.n, w.k))
		}},
		{"share N", func(d *impl.Desk, w slowWords) (string, bool) {
			return slowListText(impl.LargestRests(w.n, d.Pays))
		}},
		{"best N", func(d *impl.Desk, w slowWords) (string, bool) { return slowDecimal(impl.BestYears(d.Pays, w.n)) }},
		{"span N", func(d *impl.Desk, w slowWords) (string, bool) {
			first, sum, ok := impl.BestSpan(d.Pays, w.n)
			return slowListText([]int64{first, sum}, ok)
		}},
		{"fund N", func(d *impl.Desk, w slowWords) (string, bool) {
			return slowListText(impl.FundRun(w.n, d.Pays, d.Rates, 0))
		}},
		{"down N K", func(d *impl.Desk, w slowWords) (string, bool) {
			left, years, ok := impl.DrawDown(w.n, d.Rates, w.k)
			text, _ := slowListText(left, ok)
			return fmt.Sprintf("%s;%d", text, years), ok
		}},
		{"safe N", func(d *impl.Desk, w slowWords) (string, bool) { return slowDecimal(impl.SafeDraw(w.n, d.Rates)) }},
		{"alive", func(d *impl.Desk, w slowWords) (string, bool) { return slowRealsText(impl.AliveShares(d.Table)) }},
		{"life", func(d *impl.Desk, w slowWords) (string, bool) {
			x, ok := impl.YearsToLive(d.Table)
			return slowRealsText([]float32{x}, ok)
		}},
		{"annuity X", func(d *impl.Desk, w slowWords) (string, bool) {
			x, ok := impl.AnnuityValue(d.Table, w.x)
			return slowRealsText([]float32{x}, ok)
		}},
	}
}

func slowDecimal(n int64, ok bool) (string, bool) { return fmt.Sprint(n), ok }

// slowListText fails for lists that ListText does not tell, too.
func slowListText(list []int64, ok bool) (string, bool) {
	var parts []string
	for _, n := range list {
		parts = append(parts, fmt.Sprint(n))
		ok = ok && n >= -impl.MaxValue && n <= impl.MaxValue
	}
	return strings.Join(parts, ","), ok && len(list) <= impl.MaxItems
}

func slowRealsText(list []float32, ok bool) (string, bool) {
	var parts []string
	for _, x := range list {
		parts = append(parts, fmt.Sprintf("%08x", bitsOf(x)))
	}
	return strings.Join(parts, ","), ok
}

func slowScaleText(s impl.Scale) string {
	breaks, _ := slowListText(s.Breaks, true)
	rates, _ := slowListText(s.Rates, true)
	return breaks + ";" + rates
}

var (
	decimalPattern = regexp.MustCompile(`^(0|-?[1-9][0-9]{0,15})$`)
	realPattern    = regexp.MustCompile(`^[0-9a-f]{8}$`)
	keptPattern    = regexp.MustCompile(`(?s)^(0|[1-9][0-9]*) ([^\n]*)\n`)
	formPatterns   = patternsOfForms()
)

// patternsOfForms has for each of slowForms what its lines are like.
func patternsOfForms() []*regexp.Regexp {
	var all []*regexp.Regexp
	for _, f := range slowForms() {
		names := strings.Fields(f.form)
		all = append(all, regexp.MustCompile(`(?s)^`+names[0]+strings.Repeat(` ([^ ]*)`, len(names)-1)+`$`))
	}
	return all
}

// slowNumber reads a number in decimal by a pattern.
func slowNumber(word string) (int64, bool) {
	if !decimalPattern.MatchString(word) {
		return 0, false
	}
	n, err := strconv.ParseInt(word, 10, 64)
	return n, err == nil && n >= -impl.MaxValue && n <= impl.MaxValue
}

// slowReal reads the digits of one number by a pattern.
func slowReal(word string) (float32, bool) {
	if !realPattern.MatchString(word) {
		return 0, false
	}
	bits, _ := strconv.ParseUint(word, 16, 32)
	x := math.Float32frombits(uint32(bits))
	return x, bitsOf(x) == uint32(bits)
}

// slowAnswer returns the desk behind a line, and the output.
func slowAnswer(d impl.Desk, line string) (impl.Desk, string) {
	for i, f := range slowForms() {
		found := formPatterns[i].FindStringSubmatch(line)
		if found == nil {
			continue
		}
		w, valid := slowWords{}, true
		for i, name := range strings.Fields(f.form)[1:] {
			ok := true
			switch word := found[i+1]; name {
			case "N":
				w.n, ok = slowNumber(word)
			case "K":
				w.k, ok = slowNumber(word)
			case "X":
				w.x, ok = slowReal(word)
			case "TEXT":
				w.text = word
			}
			valid = valid && ok
		}
		after := d
		output, ok := f.do(&after, w)
		if !valid || !ok || !impl.ValidDesk(after) {
			return d, "no"
		}
		return after, output
	}
	return d, "what"
}

// slowNumberCheck is the check number of bytes, from a number on.
func slowNumberCheck(check int, s string) int {
	for i := range len(s) {
		check = (971*check + int(s[i]) + 229) % 65003
	}
	return check
}

// slowJournal returns the journal of lines, whatever they have, and where each line of it ends.
func slowJournal(lines []string) (string, []int) {
	journal, check := "", 0
	var ends []int
	for _, line := range lines {
		check = slowNumberCheck(check, line)
		journal += fmt.Sprintf("%d %s\n", check, line)
		ends = append(ends, len(journal))
	}
	return journal, ends
}

// slowRecovered returns the lines with whose journal a text begins, by a pattern.
func slowRecovered(t string) ([]string, int) {
	var lines []string
	at, check := 0, 0
	for {
		found := keptPattern.FindStringSubmatch(t[at:])
		if found == nil || found[1] != fmt.Sprint(slowNumberCheck(check, found[2])) {
			return lines, at
		}
		lines = append(lines, found[2])
		at += len(found[0])
		check = slowNumberCheck(check, found[2])
	}
}

// deskLines has lines of all forms, with words of all kinds.
func deskLines() []string {
	numbers := []string{"0", "1", "2", "3", "4", "12", "60", "75", "100", "999", "1000", "1001", "1500", "9999", "10000", "10001", "20000", "20001", "1000000", "999999937",
		"1000000000", "1000000001", "999999999999", "1000000000000", "1000000000001", "1000000000000000", "-1", "-500"}
	all := []string{"scale", "pays", "rates", "table", "trim", "alive", "life"}
	for _, n := range append(numbers, noDecimals()...) {
		for _, first := range []string{"mean", "rate", "mix", "hold", "share", "best", "span", "fund", "safe"} {
			all = append(all, first+" "+n)
		}
		for _, first := range []string{"due", "net", "gross", "chain"} {
			for _, k := range []string{"0", "1", "2", "3", "4", "-1", ""} {
				all = append(all, first+" "+n+" "+k)
			}
			all = append(all, first+" 1000 "+n)
		}
		for _, k := range []string{"0", "1", "50", "999999", "1000000000001", "-1", ""} {
			all = append(all, "down "+n+" "+k, "down 100000 "+n)
		}
	}
	for _, x := range goodInterest() {
		all = append(all, fmt.Sprintf("annuity %08x", bitsOf(x)))
	}
	for _, x := range append(badChances(), notFinite()...) {
		all = append(all, fmt.Sprintf("annuity %08x", bitsOf(x)))
	}
	for _, text := range noReals() {
		all = append(all, "annuity "+text)
	}
	return append(all, noLines()...)
}

// noDecimals has words that are no numbers in decimal, and have no blanks.
func noDecimals() []string {
	return []string{"", "-", "+1", "-0", "00", "01", "007", "-01", "+0", "--1", "1.0", "1e3", "0x1", "1_0", "1,2", "none", "N", "ok", "\t1", "1\n", "1\r", "\x001", "1\xff", "\u0661",
		"1000000000000001", "-1000000000000001", "9223372036854775807", "9223372036854775808", "-9223372036854775808", strings.Repeat("9", 400), strings.Repeat("0", 400)}
}

// noReals has words that are no texts of a list of one number.
func noReals() []string {
	return []string{"", ",", "x", "none", "0", "1", "3f80000", "3f8000000", "3F800000", "3f80000g", "0x3f8000", "3f800000,", ",3f800000", "3f800000,3f800000", "00000000,00000000",
		"00000000\n", "\x0000000000", "7fc00001", "ffc00000", "7f800001", "3f800000;", strings.Repeat("0", 400), strings.Repeat("00000000,", 300)}
}

// noLines has lines of no form.
func noLines() []string {
	all := []string{"", " ", "  ", "what", "no", "ok", "x", "\n", "\x00", "\xff", strings.Repeat("x", 5000), strings.Repeat(" ", 5000)}
	for _, f := range slowForms() {
		first := strings.Fields(f.form)[0]
		line := strings.NewReplacer("TEXT", "0;0", "N", "1", "K", "1", "X", "00000000").Replace(f.form)
		all = append(all, " "+line, line+" 1 1", line+"  ", strings.ToUpper(line), strings.Replace(line, first, first+"s", 1), strings.Replace(line, first, first[:len(first)-1], 1),
			strings.Replace(line, first, first+"\t", 1), "\t"+line, first+"\n", first+"\x00", strings.Replace(line, first, first+" ", 1)+" ", strings.ReplaceAll(line, " ", "\t")+"\t")
	}
	// What begins another first word is one here.
	return slices.DeleteFunc(all, func(line string) bool { return line == "rates 1" || line == "rate 0;0" })
}
