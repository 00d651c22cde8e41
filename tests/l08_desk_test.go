package tests

import (
	"fmt"
	"math"
	"slices"
	"strings"
	"testing"

	"loop.example/g01393/impl"
)

func TestValidDesk(t *testing.T) {
	for _, d := range goodDesks() {
		isTrue(t, fmt.Sprintf("ValidDesk(%v)", d), impl.ValidDesk(d))
	}
	for _, d := range badDesks() {
		isFalse(t, fmt.Sprintf("ValidDesk(%v)", d), impl.ValidDesk(d))
	}
	// Pays of a desk need not sum up to an amount, and need not be as many as rates.
	isTrue(t, "ValidDesk of great pays", impl.ValidDesk(withPays(impl.MaxCents, impl.MaxCents)))
	isTrue(t, "ValidDesk of one rate", impl.ValidDesk(withRates(0)))
}

func TestSameDesk(t *testing.T) {
	differ := []impl.Desk{
		withScale(0, 1000), withScale(0, 1000, 1000, 2001), withScale(0, 1000, 1001, 2000), withScale(0, 1000, 1000, 2000, 2000, 2000),
		withPays(100, 250), withPays(100, 250, 401), withPays(250, 100, 400), withPays(100, 250, 400, 0), withPays(),
		withRates(500, 0), withRates(500, 0, 500), withRates(0, 500, -500), withRates(500, 0, -500, 0), withRates(),
		withTable(0.5, 1), withTable(0.5, 0.25, 1), withTable(0.5, 0.5, 1, 1), withTable(0.5, 0.5), withTable(),
		withTable(0.5, number(0x3effffff), 1), withTable(0.5, 0, 1), withTable(0.5, minusZero(), 1), withTable(0.5, number(bitsNaN), 1), {},
	}
	for i, d := range differ {
		for k, other := range differ {
			what := fmt.Sprintf("SameDesk(%v, %v)", d, other)
			isTrue(t, what, impl.SameDesk(d, other) == (i == k))
		}
		isFalse(t, fmt.Sprintf("SameDesk of %v and a new desk", d), impl.SameDesk(d, newDesk()) || impl.SameDesk(newDesk(), d))
	}
	for i, d := range append(goodDesks(), badDesks()...) { // also what is not valid
		other := deskOf(impl.Scale{Breaks: slices.Clone(d.Scale.Breaks), Rates: slices.Clone(d.Scale.Rates)}, slices.Clone(d.Pays), slices.Clone(d.Rates), slices.Clone(d.Table)...)
		isTrue(t, fmt.Sprintf("SameDesk of %v and its copy", d), impl.SameDesk(d, other))
		other.Pays = append(other.Pays, int64(i))
		isFalse(t, fmt.Sprintf("SameDesk of %v and %v", d, other), impl.SameDesk(d, other) || impl.SameDesk(other, d))
	}
	isTrue(t, "SameDesk of not-a-numbers", impl.SameDesk(withTable(number(bitsNaN), 1), withTable(number(bitsNegNaN), 1)))
	isTrue(t, "SameDesk of empty lists", impl.SameDesk(impl.Desk{}, deskOf(impl.Scale{Breaks: []int64{}, Rates: []int64{}}, []int64{}, []int64{}, []float32{}...)))
	isFalse(t, "SameDesk of breaks without rates", impl.SameDesk(impl.Desk{Scale: impl.Scale{Breaks: []int64{5}}}, impl.Desk{Scale: impl.Scale{Rates: []int64{5}}}))
}

func TestNewDesk(t *testing.T) {
	first := impl.NewDesk()
	isDesk(t, "NewDesk", first, impl.ValidDesk(first), newDesk())
	for _, list := range [][]int64{first.Scale.Breaks, first.Scale.Rates, first.Pays, first.Rates} {
		list[0] = 77
	}
	first.Table[0] = 77
	isDesk(t, "NewDesk when another one was changed", impl.NewDesk(), true, newDesk())
	isInt(t, "MaxScript", impl.MaxScript, 16000)
}

// mostBreaks has as many breaks as there may be, with texts as long as they may be.
func mostBreaks() impl.Scale {
	const most = impl.MaxCents
	return scaleWith(0, 10000, most-6, 10000, most-5, 10000, most-4, 10000, most-3, 10000, most-2, 10000, most-1, 10000, most, 10000)
}

func TestScaleText(t *testing.T) {
	for _, c := range []struct {
		s    impl.Scale
		want string
	}{
		{scaleWith(0, 0), "0;0"},
		{scaleWith(0, 10000), "0;10000"},
		{scaleWith(0, 1000, 1000, 2000), "0,1000;1000,2000"},
		{scaleWith(0, 7, 5, 7), "0,5;7,7"},
		{scaleWith(0, 0, 1, 9999, 2, 1, 3, 5000, 5, 5001, 8, 4999, 13, 3, 21, 9999), "0,1,2,3,5,8,13,21;0,9999,1,5000,5001,4999,3,9999"},
		{mostBreaks(), "0,999999999994,999999999995,999999999996,999999999997,999999999998,999999999999,1000000000000;10000,10000,10000,10000,10000,10000,10000,10000"},
	} {
		got, ok := impl.ScaleText(c.s)
		isText(t, fmt.Sprintf("ScaleText(%v)", c.s), got, ok, c.want)
		back, ok := impl.ReadScale(c.want)
		isScale(t, fmt.Sprintf("ReadScale(%q)", c.want), back, ok, c.s)
	}
	for _, s := range badScales() {
		isNone(t, fmt.Sprintf("ScaleText(%v)", s), results(impl.ScaleText(s)))
	}
}

// noScaleTexts has texts that ScaleText makes of no scale.
func noScaleTexts() []string {
	all := []string{
		"", ";", ";;", "0", "0,1000", "0,1000,1000,2000", "none", "none;none", "none;", ";none", "0;none", "none;0", "0;", ";0",
		";0;0", "0;0;", "0;;0", ";;0;0", "0;0;;", "0;0;0", "0,1000;1000,2000;", ";0,1000;1000,2000", "0,1000;;1000,2000", "0;0;0;0", "0,1000;1000;2000",
		"0:0", "0,0", "0 0", "0; 0", "0 ;0", " 0;0", "0;0 ", "0;0\n", "\n0;0", "0;0\x00", "\x000;0", "0\uff1b0", "0;0\xff", "\"0;0\"",
		"0,;0,0", ",0;0,0", "0,1;0,", "0,,1;0,0,0", "0,1;,0", "0,;0,", "0,1;0,0,", "0,1;0 ,0", "0, 1;0,0",
		"0,1;0", "0;0,0", "0,1,2;0,0", "0,1;0,0,0", "1;0", "-1;0", "0,0;1,2", "0,7,6;1,2,3", "0,-5;1,2", "-5,0;1,2", "0;-1", "0;10001", "0,1;5,10001", "0,1;10001,5",
		"0,1000000000001;1,2", "0,1000000000000001;1,2", "0,9223372036854775808;1,2", "0,-0;1,2", "0,01;1,2", "00;0", "-0;0", "+0;0", "0;+1", "0;01", "0;-0", "0;1.0", "0;0x1", "0;1e3", "0;\u0661",
		"0,1,2,3,4,5,6,7,8;0,1,2,3,4,5,6,7,8", strings.Repeat("0,", 5000) + ";0", "0;" + strings.Repeat("0,", 5000), strings.Repeat(";", 5000), strings.Repeat("0;", 5000), strings.Repeat("0", 5000) + ";0",
		"3f800000;3f800000", "0-9 r1: 1 => 2", "ok", "no", "what",
	}
	for _, s := range badScales() {
		if len(s.Breaks) > 0 && len(s.Rates) > 0 && eachOf(slices.Concat(s.Breaks, s.Rates), func(n int64) bool { return n != math.MinInt64 }) {
			all = append(all, slowScaleText(s))
		}
	}
	return all
}

func TestReadScale(t *testing.T) {
	for _, s := range append(goodScales(), mostBreaks()) {
		text := slowScaleText(s)
		got, ok := impl.ReadScale(text)
		isScale(t, fmt.Sprintf("ReadScale(%q)", text), got, ok, s)
		for _, other := range []string{text + ";", ";" + text, text + ",", "," + text, text + " ", " " + text, text + text, text + ";" + text, text + "\n", strings.Replace(text, ";", ";;", 1), strings.Replace(text, ";", "", 1), strings.Replace(text, ";", ",", 1), "0" + text} {
			isNone(t, fmt.Sprintf("ReadScale(%q)", other), results(impl.ReadScale(other)))
		}
	}
	for _, text := range noScaleTexts() {
		isNone(t, fmt.Sprintf("ReadScale(%q)", text), results(impl.ReadScale(text)))
	}
}

// Each byte of a text is looked at: what is read after a change has the changed text.
func TestReadScaleOfChangedTexts(t *testing.T) {
	read := 0
	for _, s := range goodScales() {
		text := slowScaleText(s)
		for at := range len(text) {
			for change := range 255 {
				bytes := []byte(text)
				bytes[at] ^= byte(change + 1)
				got, ok := impl.ReadScale(string(bytes))
				if !ok {
					isNone(t, fmt.Sprintf("ReadScale(%q)", bytes), results(got, ok))
					continue
				}
				read++
				isTrue(t, fmt.Sprintf("ReadScale(%q): got %v", bytes, got), slowScaleText(got) == string(bytes) && impl.ValidScale(got))
			}
		}
	}
	isTrue(t, fmt.Sprintf("some changed texts are those of other scales: %d", read), read > 300)
}
