package tests

import (
	"fmt"
	"math/big"
	"slices"
	"testing"

	"loop.example/g01393/impl"
)

func TestValidScale(t *testing.T) {
	for _, s := range goodScales() {
		isTrue(t, fmt.Sprintf("ValidScale(%v)", s), impl.ValidScale(s))
	}
	for _, s := range badScales() {
		isFalse(t, fmt.Sprintf("ValidScale(%v)", s), impl.ValidScale(s))
	}
	isTrue(t, "a scale of MaxBreaks", impl.ValidScale(scaleWith(0, 0, 1, 0, 2, 0, 3, 0, 4, 0, 5, 0, 6, 0, 7, 0)))
}

func TestSameScale(t *testing.T) {
	all := append(goodScales(), badScales()[1:]...) // the first one is the empty scale, too
	for i, a := range all {
		for j, b := range all {
			if got := impl.SameScale(a, b); got != (i == j) {
				t.Errorf("SameScale(%v, %v): got %v", a, b, got)
			}
		}
	}
	isTrue(t, "nil and empty lists", impl.SameScale(impl.Scale{}, impl.Scale{Breaks: []int64{}, Rates: []int64{}}))
	isFalse(t, "a list of a 0 and an empty one", impl.SameScale(impl.Scale{Breaks: []int64{0}}, impl.Scale{Rates: []int64{0}}))
	isFalse(t, "one 0 more", impl.SameScale(scaleWith(0, 0), scaleWith(0, 0, 0, 0)))
	long := slices.Repeat([]int64{5}, 1000)
	other := slices.Clone(long)
	other[999] = 6
	isTrue(t, "long lists", impl.SameScale(impl.Scale{Rates: long}, impl.Scale{Rates: slices.Clone(long)}))
	isFalse(t, "long lists with another end", impl.SameScale(impl.Scale{Rates: long}, impl.Scale{Rates: other}))
	isFalse(t, "rates as breaks", impl.SameScale(impl.Scale{Rates: long}, impl.Scale{Breaks: long}))
}

func TestRoundOf(t *testing.T) {
	const most = 4000000000000000000
	for _, c := range []struct {
		above, below int64
		want         [4]int64
	}{
		{1, 2, [4]int64{0, 1, 0, 1}},
		{3, 2, [4]int64{1, 2, 2, 2}},
		{5, 2, [4]int64{2, 3, 2, 3}},
		{0, 1, [4]int64{0, 0, 0, 0}},
		{0, 1000000000, [4]int64{0, 0, 0, 0}},
		{1, 3, [4]int64{0, 0, 0, 1}},
		{2, 3, [4]int64{0, 1, 1, 1}},
		{6, 3, [4]int64{2, 2, 2, 2}},
		{4999, 10000, [4]int64{0, 0, 0, 1}},
		{5000, 10000, [4]int64{0, 1, 0, 1}},
		{5001, 10000, [4]int64{0, 1, 1, 1}},
		{15000, 10000, [4]int64{1, 2, 2, 2}},
		{1, 1000000000, [4]int64{0, 0, 0, 1}},
		{499999999, 999999999, [4]int64{0, 0, 0, 1}},
		{500000000, 999999999, [4]int64{0, 1, 1, 1}},
		{most, 1, [4]int64{most, most, most, most}},
		{most, 1000000000, [4]int64{4000000000, 4000000000, 4000000000, 4000000000}},
		{most - 1, 2, [4]int64{most/2 - 1, most / 2, most / 2, most / 2}},
		{most, 999999999, [4]int64{4000000004, 4000000004, 4000000004, 4000000005}},
	} {
		for round, want := range c.want {
			got, ok := impl.RoundOf(c.above, c.below, int64(round))
			if !ok || got != want {
				t.Errorf("RoundOf(%d, %d, %d): got %d %v, want %d", c.above, c.below, round, got, ok, want)
			}
		}
	}
	g := lcg(8)
	for range 5000 {
		above, below := int64(g.next()<<30|g.next())%(most+1), 1+int64(g.next())%1000000000
		if g.next()%2 == 0 {
			above, below = above%1000, 1+below%20
		}
		for round := range int64(4) {
			got, _ := impl.RoundOf(above, below, round)
			isInt(t, fmt.Sprintf("RoundOf(%d, %d, %d)", above, below, round), got, slowRound(big.NewRat(above, below), round))
		}
	}
}

func TestDueOf(t *testing.T) {
	const most = impl.MaxCents
	steps := scaleWith(0, 1000, 1000, 2000)
	full := scaleWith(0, 10000, 1, 9999, 20, 10000, 30, 0, 40, 10000, 41, 5, 42, 10000, 43, 5000)
	for _, c := range []struct {
		s     impl.Scale
		cents int64
		want  [4]int64
	}{
		{steps, 0, [4]int64{0, 0, 0, 0}},
		{steps, 1, [4]int64{0, 0, 0, 1}},
		{steps, 5, [4]int64{0, 1, 0, 1}},
		{steps, 15, [4]int64{1, 2, 2, 2}},
		{steps, 999, [4]int64{99, 100, 100, 100}},
		{steps, 1000, [4]int64{100, 100, 100, 100}},
		{steps, 1001, [4]int64{100, 100, 100, 101}},
		{steps, 1500, [4]int64{200, 200, 200, 200}},
		{steps, most, [4]int64{199999999900, 199999999900, 199999999900, 199999999900}},
		{scaleWith(0, 0), most, [4]int64{0, 0, 0, 0}},
		{scaleWith(0, 10000), most, [4]int64{most, most, most, most}},
		{scaleWith(0, 10000), 1, [4]int64{1, 1, 1, 1}},
		{scaleWith(0, 9999), most, [4]int64{999900000000, 999900000000, 999900000000, 999900000000}},
		{scaleWith(0, 1), most - 1, [4]int64{99999999, 100000000, 100000000, 100000000}},
		{scaleWith(0, 5000), 1, [4]int64{0, 1, 0, 1}},
		{scaleWith(0, 5000), 3, [4]int64{1, 2, 2, 2}},
		{scaleWith(0, 5000), most - 1, [4]int64{most/2 - 1, most / 2, most / 2, most / 2}},
		// Parts of several brackets are added before they are rounded.
		{scaleWith(0, 5000, 1, 2500, 2, 2500), 3, [4]int64{1, 1, 1, 1}},
		{scaleWith(0, 2500, 1, 2500, 2, 1), 3, [4]int64{0, 1, 1, 1}},
		{full, 19, [4]int64{18, 19, 19, 19}},
		{full, 43, [4]int64{31, 32, 32, 32}},
		{full, 44, [4]int64{32, 32, 32, 33}},
		{scaleWith(0, 0, most, 10000), most, [4]int64{0, 0, 0, 0}},
	} {
		for round, want := range c.want {
			due, ok := impl.DueOf(c.s, c.cents, int64(round))
			if !ok || due != want {
				t.Errorf("DueOf(%v, %d, %d): got %d %v, want %d", c.s, c.cents, round, due, ok, want)
			}
			net, ok := impl.NetOf(c.s, c.cents, int64(round))
			if !ok || net != c.cents-want {
				t.Errorf("NetOf(%v, %d, %d): got %d %v, want %d", c.s, c.cents, round, net, ok, c.cents-want)
			}
		}
	}
}

func TestDuesByFractions(t *testing.T) {
	for _, s := range goodScales() {
		for _, cents := range besideBreaks(s) {
			exact := slowDue(s, cents)
			for round := range int64(4) {
				due, _ := impl.DueOf(s, cents, round)
				isInt(t, fmt.Sprintf("DueOf(%v, %d, %d)", s, cents, round), due, slowRound(exact, round))
				net, _ := impl.NetOf(s, cents, round)
				isInt(t, fmt.Sprintf("NetOf(%v, %d, %d)", s, cents, round), net, cents-due)
			}
			if cents > 0 {
				mean := exact.Quo(exact, big.NewRat(cents, 1))
				above, below, ok := impl.MeanRate(s, cents)
				if !ok || above != mean.Num().Int64() || below != mean.Denom().Int64() {
					t.Errorf("MeanRate(%v, %d): got %d %d %v, want %v", s, cents, above, below, ok, mean)
				}
			}
		}
	}
}

func TestRateAt(t *testing.T) {
	s := scaleWith(0, 1400, 10, 0, 11, 10000, impl.MaxCents, 7)
	for _, c := range [][2]int64{{0, 1400}, {1, 1400}, {9, 1400}, {10, 0}, {11, 10000}, {12, 10000}, {impl.MaxCents - 1, 10000}, {impl.MaxCents, 7}} {
		got, ok := impl.RateAt(s, c[0])
		if !ok || got != c[1] {
			t.Errorf("RateAt(%v, %d): got %d %v, want %d", s, c[0], got, ok, c[1])
		}
	}
}

func TestMeanRate(t *testing.T) {
	const most = impl.MaxCents
	for _, c := range []struct {
		s                   impl.Scale
		cents, above, below int64
	}{
		{scaleWith(0, 1000, 1000, 2000), 1500, 2, 15},
		{scaleWith(0, 1000, 1000, 2000), 1000, 1, 10},
		{scaleWith(0, 0), 7, 0, 1},
		{scaleWith(0, 0), most, 0, 1},
		{scaleWith(0, 10000), most, 1, 1},
		{scaleWith(0, 10000), 1, 1, 1},
		{scaleWith(0, 1), 1, 1, 10000},
		{scaleWith(0, 1), most, 1, 10000},
		{scaleWith(0, 0, most-1, 1), most, 1, 10000 * most},
		{scaleWith(0, 0, 5, 3000), 5, 0, 1},
	} {
		above, below, ok := impl.MeanRate(c.s, c.cents)
		if !ok || above != c.above || below != c.below {
			t.Errorf("MeanRate(%v, %d): got %d %d %v, want %d %d", c.s, c.cents, above, below, ok, c.above, c.below)
		}
	}
	isTrue(t, "MeanRate of the amount 0 fails", failed(results(impl.MeanRate(scaleWith(0, 100), 0))))
}

func TestGrossOf(t *testing.T) {
	const most = impl.MaxCents
	steps := scaleWith(0, 1000, 1000, 2000)
	for _, c := range []struct {
		s                impl.Scale
		net, round, want int64
	}{
		{steps, 1300, 0, 1499},
		{steps, 1300, 3, 1500},
		{steps, 0, 0, 0},
		{steps, 0, 3, 0},
		{steps, 1, 0, 1},
		{steps, 1, 3, 2},
		{steps, 900, 0, 999},
		{steps, 900, 3, 1000},
		{steps, 899, 3, 999},
		{steps, 901, 0, 1001},
		{steps, 901, 3, 1002},
		{scaleWith(0, 0), most, 0, most},
		{scaleWith(0, 0), most, 3, most},
		{scaleWith(0, 9999), 100000000, 0, most - 9999},
		{scaleWith(0, 9999), 100000000, 3, most},
		{scaleWith(0, 9999), 1, 0, 1},
		{scaleWith(0, 9999), 1, 3, 10000},
		{scaleWith(0, 5000), 1, 0, 1},
		{scaleWith(0, 5000), 1, 1, 2},
		{scaleWith(0, 5000), 1, 2, 1},
		{scaleWith(0, 5000), 2, 1, 4},
		{scaleWith(0, 5000), 2, 2, 4},
		{scaleWith(0, 5000), 3, 2, 5},
		{scaleWith(0, 0, most, 9999), most, 3, most},
	} {
		got, ok := impl.GrossOf(c.s, c.net, c.round)
		if !ok || got != c.want {
			t.Errorf("GrossOf(%v, %d, %d): got %d %v, want %d", c.s, c.net, c.round, got, ok, c.want)
		}
	}
}

// Nets that no amount has, and rates that take a whole.
func TestGrossOfNone(t *testing.T) {
	for _, s := range goodScales() {
		for round := range int64(4) {
			last, _ := impl.NetOf(s, impl.MaxCents, round)
			_, ok := impl.GrossOf(s, last, round)
			if ok == takesWhole(s) {
				t.Errorf("GrossOf(%v, %d, %d) of the last net: got %v", s, last, round, ok)
			}
			for _, net := range []int64{last + 1, impl.MaxCents + 1} {
				isTrue(t, fmt.Sprintf("GrossOf(%v, %d, %d) fails", s, net, round), failed(results(impl.GrossOf(s, net, round))))
			}
			if takesWhole(s) {
				isTrue(t, fmt.Sprintf("GrossOf(%v, 0, %d) fails", s, round), failed(results(impl.GrossOf(s, 0, round))))
			}
		}
	}
}

func TestJoinScales(t *testing.T) {
	steps := scaleWith(0, 1000, 1000, 2000)
	for _, c := range []struct{ a, b, want impl.Scale }{
		{steps, scaleWith(0, 0, 500, 100), scaleWith(0, 1000, 500, 1100, 1000, 2100)},
		{steps, steps, scaleWith(0, 2000, 1000, 4000)},
		{scaleWith(0, 0), scaleWith(0, 10000), scaleWith(0, 10000)},
		{scaleWith(0, 4000), scaleWith(0, 6000), scaleWith(0, 10000)},
		{scaleWith(0, 10000, 5, 0), scaleWith(0, 0, 5, 10000), scaleWith(0, 10000, 5, 10000)},
		{scaleWith(0, 1, 2, 1), scaleWith(0, 5), scaleWith(0, 6, 2, 6)},
		{scaleWith(0, 1, 2, 2, 4, 3, 6, 4), scaleWith(0, 10, 1, 20, 3, 30, 5, 40, 7, 50), scaleWith(0, 11, 1, 21, 2, 22, 3, 32, 4, 33, 5, 43, 6, 44, 7, 54)},
		{scaleWith(0, 1, impl.MaxCents, 2), scaleWith(0, 1, impl.MaxCents-1, 5), scaleWith(0, 2, impl.MaxCents-1, 6, impl.MaxCents, 7)},
	} {
		got, ok := impl.JoinScales(c.a, c.b)
		isScale(t, fmt.Sprintf("JoinScales(%v, %v)", c.a, c.b), got, ok, c.want)
		got, ok = impl.JoinScales(c.b, c.a)
		isScale(t, fmt.Sprintf("JoinScales(%v, %v)", c.b, c.a), got, ok, c.want)
	}
	for _, c := range []struct{ a, b impl.Scale }{
		{scaleWith(0, 4001), scaleWith(0, 6000)},
		{scaleWith(0, 9000), steps},
		{scaleWith(0, 0, 9, 10000), scaleWith(0, 0, 8, 1)},
		{scaleWith(0, 0, 9, 10000, 10, 0), scaleWith(0, 1, 9, 1, 10, 1)},
		{scaleWith(0, 1, 2, 2, 4, 3, 6, 4, 8, 5), scaleWith(0, 10, 1, 20, 3, 30, 5, 40, 7, 50)},
	} {
		isTrue(t, fmt.Sprintf("JoinScales(%v, %v) fails", c.a, c.b), failed(results(impl.JoinScales(c.a, c.b))))
		isTrue(t, fmt.Sprintf("JoinScales(%v, %v) fails", c.b, c.a), failed(results(impl.JoinScales(c.b, c.a))))
	}
}

// What is due by a joined scale is what is due by both, but for the rounding.
func TestJoinScalesDues(t *testing.T) {
	for _, a := range goodScales() {
		for _, b := range goodScales() {
			joined, ok := impl.JoinScales(a, b)
			if !ok {
				continue
			}
			for _, cents := range append(besideBreaks(a), besideBreaks(b)...) {
				sum := slowDue(a, cents)
				if sum.Add(sum, slowDue(b, cents)).Cmp(slowDue(joined, cents)) != 0 {
					t.Fatalf("JoinScales(%v, %v): got %v, which has another due of %d", a, b, joined, cents)
				}
			}
		}
	}
}

func TestMixScale(t *testing.T) {
	for _, c := range []struct {
		s    impl.Scale
		by   int64
		want impl.Scale
	}{
		{scaleWith(0, 1000, 1000, 2000), 5000, scaleWith(0, 500, 1000, 1000)},
		{scaleWith(0, 1000, 1000, 2000), 10000, scaleWith(0, 1000, 1000, 2000)},
		{scaleWith(0, 1000, 1000, 2000), 0, scaleWith(0, 0, 1000, 0)},
		{scaleWith(0, 5000, 7, 1), 20000, scaleWith(0, 10000, 7, 2)},
		{scaleWith(0, 3333, 7, 1), 9999, scaleWith(0, 3332, 7, 0)},
		{scaleWith(0, 9999), 10001, scaleWith(0, 9999)},
		{scaleWith(0, 9998), 10003, scaleWith(0, 10000)},
		{scaleWith(0, 10000), 1, scaleWith(0, 1)},
	} {
		got, ok := impl.MixScale(c.s, c.by)
		isScale(t, fmt.Sprintf("MixScale(%v, %d)", c.s, c.by), got, ok, c.want)
	}
	for _, c := range []struct {
		s  impl.Scale
		by int64
	}{{scaleWith(0, 5001), 20000}, {scaleWith(0, 10000), 10001}, {scaleWith(0, 0, 1, 9998), 10004}} {
		isTrue(t, fmt.Sprintf("MixScale(%v, %d) fails", c.s, c.by), failed(results(impl.MixScale(c.s, c.by))))
	}
}

func TestStretchScale(t *testing.T) {
	const most = impl.MaxCents
	for _, c := range []struct {
		s            impl.Scale
		above, below int64
		want         impl.Scale
	}{
		{scaleWith(0, 1000, 1000, 2000), 3, 2, scaleWith(0, 1000, 1500, 2000)},
		{scaleWith(0, 1, 3, 2, 5, 3), 1, 2, scaleWith(0, 1, 1, 2, 2, 3)},
		{scaleWith(0, 1, most, 2), 1000, 1000, scaleWith(0, 1, most, 2)},
		{scaleWith(0, 1, most, 2), 1, 1000, scaleWith(0, 1, most/1000, 2)},
		{scaleWith(0, 1, most/1000, 2), 1000, 1, scaleWith(0, 1, most, 2)},
		{scaleWith(0, 1, most, 2), 999, 1000, scaleWith(0, 1, 999000000000, 2)},
		{scaleWith(0, 7), 1000, 1, scaleWith(0, 7)},
		{scaleWith(0, 7), 1, 1000, scaleWith(0, 7)},
	} {
		got, ok := impl.StretchScale(c.s, c.above, c.below)
		isScale(t, fmt.Sprintf("StretchScale(%v, %d, %d)", c.s, c.above, c.below), got, ok, c.want)
	}
	for _, c := range []struct {
		s            impl.Scale
		above, below int64
	}{
		{scaleWith(0, 1, 1, 2), 1, 2},
		{scaleWith(0, 1, 2, 2, 3, 3), 1, 2},
		{scaleWith(0, 1, most, 2), 1000, 999},
		{scaleWith(0, 1, most/1000+1, 2), 1000, 1},
		{scaleWith(0, 1, most, 2), 1000, 1},
	} {
		isTrue(t, fmt.Sprintf("StretchScale(%v, %d, %d) fails", c.s, c.above, c.below), failed(results(impl.StretchScale(c.s, c.above, c.below))))
	}
}

func TestIndexScale(t *testing.T) {
	const most = impl.MaxCents
	for _, c := range []struct {
		s        impl.Scale
		by, step int64
		want     impl.Scale
	}{
		{scaleWith(0, 1000, 1000, 2000), 1260, 100, scaleWith(0, 1000, 1100, 2000)},
		{scaleWith(0, 1000, 1000, 2000), 1500, 100, scaleWith(0, 1000, 1200, 2000)},
		{scaleWith(0, 1000, 1000, 2000), 500, 100, scaleWith(0, 1000, 1100, 2000)},
		{scaleWith(0, 1000, 1000, 2000), 499, 100, scaleWith(0, 1000, 1000, 2000)},
		{scaleWith(0, 1000, 1000, 2000), 0, 1, scaleWith(0, 1000, 1000, 2000)},
		{scaleWith(0, 1000, 1000, 2000), -5000, 1, scaleWith(0, 1000, 500, 2000)},
		{scaleWith(0, 1000, 1001, 2000), -5000, 1, scaleWith(0, 1000, 501, 2000)},
		{scaleWith(0, 1000, 1000, 2000), 10000, 1, scaleWith(0, 1000, 2000, 2000)},
		{scaleWith(0, 1, most, 2), -5000, 1000000, scaleWith(0, 1, most/2, 2)},
		{scaleWith(0, 1, most/2, 2), 10000, 1000000, scaleWith(0, 1, most, 2)},
		{scaleWith(0, 1, most, 2), -1, 1000000, scaleWith(0, 1, 999900000000, 2)},
		{scaleWith(0, 1, 500000, 2), 0, 1000000, scaleWith(0, 1, 1000000, 2)},
		{scaleWith(0, 1, most-499999, 2), 0, 1000000, scaleWith(0, 1, most, 2)},
		{scaleWith(0, 1, 123456789, 2), 123, 100001, scaleWith(0, 1, 125001250, 2)},
		{scaleWith(0, 1, most-1, 2), 0, 999999, scaleWith(0, 1, most-1, 2)},
		{scaleWith(0, 1, most, 2), 0, 999999, scaleWith(0, 1, most-1, 2)},
		{scaleWith(0, 4), -5000, 1000000, scaleWith(0, 4)},
	} {
		got, ok := impl.IndexScale(c.s, c.by, c.step)
		isScale(t, fmt.Sprintf("IndexScale(%v, %d, %d)", c.s, c.by, c.step), got, ok, c.want)
	}
	for _, c := range []struct {
		s        impl.Scale
		by, step int64
	}{
		{scaleWith(0, 1, 499999, 2), 0, 1000000},
		{scaleWith(0, 1, 100, 2, 149, 3), 0, 100},
		{scaleWith(0, 1, most, 2), 1, 1},
		{scaleWith(0, 1, most, 2), 10000, 1000000},
		{scaleWith(0, 1, most/2+1, 2), 10000, 1},
		{scaleWith(0, 1, most, 2), 0, 17},
	} {
		isTrue(t, fmt.Sprintf("IndexScale(%v, %d, %d) fails", c.s, c.by, c.step), failed(results(impl.IndexScale(c.s, c.by, c.step))))
	}
}

func TestTrimScale(t *testing.T) {
	for _, c := range []struct{ s, want impl.Scale }{
		{scaleWith(0, 7, 5, 7), scaleWith(0, 7)},
		{scaleWith(0, 0), scaleWith(0, 0)},
		{scaleWith(0, 1000, 1000, 2000), scaleWith(0, 1000, 1000, 2000)},
		{scaleWith(0, 1, 1, 2, 2, 2, 3, 2, 4, 1, 5, 1, 6, 2, 7, 1), scaleWith(0, 1, 1, 2, 4, 1, 6, 2, 7, 1)},
		{scaleWith(0, 0, 1, 0, 2, 0, 3, 0, 4, 0, 5, 0, 6, 0, 7, 0), scaleWith(0, 0)},
		{scaleWith(0, 5, 3, 6, 4, 6), scaleWith(0, 5, 3, 6)},
	} {
		got, ok := impl.TrimScale(c.s)
		isScale(t, fmt.Sprintf("TrimScale(%v)", c.s), got, ok, c.want)
	}
}

func TestScaleOf(t *testing.T) {
	const most = impl.MaxCents
	for _, c := range []struct {
		cents, dues []int64
		last        int64
		want        impl.Scale
	}{
		{[]int64{0, 1000}, []int64{0, 100}, 2000, scaleWith(0, 1000, 1000, 2000)},
		{[]int64{0}, []int64{0}, 0, scaleWith(0, 0)},
		{[]int64{0}, []int64{0}, 10000, scaleWith(0, 10000)},
		{[]int64{0, 1, 2}, []int64{0, 1, 1}, 3, scaleWith(0, 10000, 1, 0, 2, 3)},
		{[]int64{0, most}, []int64{0, most}, 0, scaleWith(0, 10000, most, 0)},
		{[]int64{0, most}, []int64{0, 100000000}, 0, scaleWith(0, 1, most, 0)},
		{[]int64{0, 16, 48}, []int64{0, 1, 9}, 0, scaleWith(0, 625, 16, 2500, 48, 0)},
		{[]int64{0, 1, 2, 3, 4, 5, 6, 7}, []int64{0, 0, 1, 1, 2, 2, 3, 4}, 5, scaleWith(0, 0, 1, 10000, 2, 0, 3, 10000, 4, 0, 5, 10000, 6, 10000, 7, 5)},
	} {
		got, ok := impl.ScaleOf(c.cents, c.dues, c.last)
		isScale(t, fmt.Sprintf("ScaleOf(%v, %v, %d)", c.cents, c.dues, c.last), got, ok, c.want)
	}
	for _, c := range []struct{ cents, dues []int64 }{
		{[]int64{0, 3}, []int64{0, 1}},
		{[]int64{0, 3}, []int64{0, 4}},
		{[]int64{0, 1000}, []int64{0, 1001}},
		{[]int64{0, 10, 20}, []int64{0, 5, 4}},
		{[]int64{0, 20000}, []int64{0, 1}},
		{[]int64{0, 1, 2, 3, 4, 5, 6, 7, 8}, []int64{0, 0, 0, 0, 0, 0, 0, 0, 0}},
	} {
		isTrue(t, fmt.Sprintf("ScaleOf(%v, %v, 0) fails", c.cents, c.dues), failed(results(impl.ScaleOf(c.cents, c.dues, 0))))
	}
}

// A scale is told by its dues at the breaks, where these are whole cents.
func TestScaleOfDues(t *testing.T) {
	for _, s := range goodScales() {
		var dues []int64
		whole := true
		for _, from := range s.Breaks {
			exact := slowDue(s, from)
			whole = whole && exact.IsInt()
			dues = append(dues, slowRound(exact, 0))
		}
		got, ok := impl.ScaleOf(s.Breaks, dues, s.Rates[len(s.Rates)-1])
		if ok && !whole && impl.SameScale(got, s) || whole && !ok {
			t.Errorf("ScaleOf(%v, %v, _): got %v %v", s.Breaks, dues, got, ok)
		}
		if whole {
			isScale(t, "ScaleOf the dues of a scale", got, ok, s)
		}
	}
}
