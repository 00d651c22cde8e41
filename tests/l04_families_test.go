package tests

import (
	"fmt"
	"math/big"
	"slices"
	"testing"

	"loop.example/g01393/impl"
)

func TestSplitDue(t *testing.T) {
	const most = impl.MaxCents
	steps := scaleWith(0, 1000, 1000, 2000)
	half := scaleWith(0, 5000)
	last := scaleWith(0, 5000, most-1, 10000) // takes half of most, and one half more
	for _, c := range []struct {
		s        impl.Scale
		one, two int64
		want     [4]int64
	}{
		{steps, 1500, 500, [4]int64{200, 200, 200, 200}},
		{steps, 500, 1500, [4]int64{200, 200, 200, 200}},
		{steps, 2000, 0, [4]int64{200, 200, 200, 200}},
		{steps, 1501, 500, [4]int64{200, 200, 200, 200}}, // half of an odd sum is rounded down
		{steps, 1502, 500, [4]int64{200, 200, 200, 202}},
		{steps, 0, 0, [4]int64{0, 0, 0, 0}},
		{steps, 1, 0, [4]int64{0, 0, 0, 0}},
		{steps, 1, 1, [4]int64{0, 0, 0, 2}},
		{half, 2, 1, [4]int64{0, 2, 0, 2}},
		{half, 3, 3, [4]int64{2, 4, 4, 4}},
		{half, most, most, [4]int64{most, most, most, most}},
		{half, most, most - 1, [4]int64{most - 2, most, most, most}},
		{scaleWith(0, 10000), most, 0, [4]int64{most, most, most, most}},
		{scaleWith(0, 10000), most, 1, [4]int64{most, most, most, most}},
		{scaleWith(0, 10000), most, 2, [4]int64{-1, -1, -1, -1}},
		{scaleWith(0, 10000), most, most, [4]int64{-1, -1, -1, -1}},
		{last, most, most, [4]int64{most, -1, most, -1}},
		{last, most, most - 1, [4]int64{most - 2, most, most, most}},
	} {
		for round, want := range c.want {
			got, ok := impl.SplitDue(c.s, c.one, c.two, int64(round))
			what := fmt.Sprintf("SplitDue(%v, %d, %d, %d)", c.s, c.one, c.two, round)
			if want < 0 {
				isNone(t, what, results(got, ok))
				continue
			}
			isTold(t, what, got, ok, want)
		}
	}
}

func TestPartsDue(t *testing.T) {
	const most = impl.MaxCents
	steps := scaleWith(0, 1000, 1000, 2000)
	for _, c := range []struct {
		s                         impl.Scale
		cents, parts, most, round int64
		want                      int64
	}{
		{steps, 1500, 3, 1000, 0, 150},
		{steps, 1500, 3, 20, 0, 180},
		{steps, 1500, 3, 50, 0, 150},
		{steps, 1500, 3, 49, 0, 151},
		{steps, 1500, 3, 0, 0, 200},
		{steps, 1500, 3, 200, 0, 150},
		{steps, 1500, 3, most, 0, 150},
		{steps, 1500, 2, 1000, 0, 200}, // one part of two halves
		{steps, 1500, 4, 1000, 0, 150},
		{steps, 3000, 4, 1000, 0, 400},
		{steps, 3000, 16, 1000, 0, 296}, // 8 parts of 375, with 37 each
		{steps, 3000, 16, 1000, 3, 304},
		{steps, 3000, 16, 0, 3, 500},
		{steps, 157, 3, 1000, 0, 15},   // 3 times 10, divided by 2
		{steps, 170, 3, 1000, 0, 16},   // 3 times 11, divided by 2, is rounded down
		{steps, 170, 3, 1000, 3, 18},   // 113.3 is rounded down and has 11.3
		{steps, 1499, 3, 1000, 1, 150}, // 999.3 is rounded down and has 99.9
		{steps, 1, 16, 1000, 3, 0},
		{steps, 8, 16, 1000, 3, 8},
		{steps, 8, 16, 0, 3, 8},
		{steps, 0, 5, 0, 3, 0},
		{scaleWith(0, 10000), most, 2, 0, 0, most},
		{scaleWith(0, 10000), most, 16, most, 0, most},
		{scaleWith(0, 10000), most - 1, 16, most, 0, most - 8},
		{scaleWith(0, 10000), most - 1, 16, 3, 0, most - 4},
	} {
		got, ok := impl.PartsDue(c.s, c.cents, c.parts, c.most, c.round)
		isTold(t, fmt.Sprintf("PartsDue(%v, %d, %d, %d, %d)", c.s, c.cents, c.parts, c.most, c.round), got, ok, c.want)
	}
}

// slowDown returns a quotient that is rounded down, also below 0.
func slowDown(above, below int64) int64 {
	return new(big.Int).Div(big.NewInt(above), big.NewInt(below)).Int64() // for a divisor above 0
}

func TestFamiliesByFractions(t *testing.T) {
	g := lcg(94)
	for _, s := range goodScales() {
		for _, cents := range besideBreaks(s) {
			round, parts, most := g.below(3), 2+g.below(14), g.one(0, 3, g.below(cents), impl.MaxCents)
			due := slowRound(slowDue(s, cents), round)
			part := slowRound(slowDue(s, slowDown(2*cents, parts)), round)
			got, ok := impl.PartsDue(s, cents, parts, most, round)
			what := fmt.Sprintf("PartsDue(%v, %d, %d, %d, %d)", s, cents, parts, most, round)
			isTold(t, what, got, ok, max(slowDown(parts*part, 2), due-most))

			one := g.below(min(impl.MaxCents, 2*cents))
			two := min(impl.MaxCents, 2*cents+g.below(1)-one)
			want := 2 * slowRound(slowDue(s, slowDown(one+two, 2)), round)
			got, ok = impl.SplitDue(s, one, two, round)
			what = fmt.Sprintf("SplitDue(%v, %d, %d, %d)", s, one, two, round)
			if want > impl.MaxCents {
				isNone(t, what, results(got, ok))
				continue
			}
			isTold(t, what, got, ok, want)
		}
	}
}

func TestChildBenefit(t *testing.T) {
	const most = impl.MaxCents
	for _, c := range []struct{ first, more, children, start, rate, cents, want int64 }{
		{50, 30, 2, 0, 1000, 100, 70},
		{50, 30, 0, 0, 1000, 100, 0},
		{50, 30, 0, 1000, 0, 0, 0},
		{50, 30, 1, 0, 1000, 100, 40},
		{50, 30, 1, 100, 1000, 100, 50},
		{50, 30, 1, 100, 1000, 101, 49},
		{50, 30, 20, 100, 1000, 100, 620},
		{50, 30, 20, 100, 5000, 200, 570},
		{50, 30, 2, 0, 10000, 79, 1},
		{50, 30, 2, 0, 10000, 80, 0},
		{50, 30, 2, 0, 10000, most, 0},
		{50, 0, 20, 0, 0, most, 50},
		{0, 30, 3, 0, 0, most, 60},
		{0, 0, 20, most, 10000, most, 0},
		{most, 0, 20, 0, 0, 0, most},
		{most, most, 0, 0, 0, 0, 0},
		{most, most, 1, 0, 0, 0, most},
		{0, most, 2, 0, 0, 0, most},
		{1, most, 2, 0, 0, 0, -1},
		{most, 1, 2, 0, 0, 0, -1},
		{most, most, 20, 0, 10000, most, -1}, // what would be left is 0, but what there was is none
		{50000000000, 50000000000, 20, 0, 0, 0, most},
		{50000000001, 50000000000, 20, 0, 0, 0, -1},
	} {
		got, ok := impl.ChildBenefit(c.first, c.more, c.children, c.start, c.rate, c.cents)
		what := fmt.Sprintf("ChildBenefit(%d, %d, %d, %d, %d, %d)", c.first, c.more, c.children, c.start, c.rate, c.cents)
		if c.want < 0 {
			isNone(t, what, results(got, ok))
			continue
		}
		isTold(t, what, got, ok, c.want)
	}
}

func TestNetCurve(t *testing.T) {
	const most = impl.MaxCents
	steps := scaleWith(0, 1000, 1000, 2000)
	for _, c := range []struct {
		full, start, rate, step, count int64
		want                           []int64
	}{
		{100, 500, 10000, 500, 3, []int64{100, 550, 900, 1300}},
		{0, 0, 0, 500, 3, []int64{0, 450, 900, 1300}},
		{100, 0, 0, 500, 1, []int64{100, 550}},
		{900, 500, 10000, 100, 9, []int64{900, 990, 1080, 1170, 1260, 1350, 1340, 1330, 1320, 1310}}, // nets that fall
		{7, 3, 5000, 1, 8, []int64{7, 8, 9, 10, 10, 11, 11, 12, 12}},
	} {
		got, ok := impl.NetCurve(steps, c.full, c.start, c.rate, c.step, c.count, 0)
		isList(t, fmt.Sprintf("NetCurve(%v)", c), got, ok, c.want...)
	}
	got, ok := impl.NetCurve(scaleWith(0, 0), most-64000000, 0, 0, 1000000, 64, 0)
	isTrue(t, "NetCurve to MaxCents", ok && len(got) == 65 && got[64] == most)
	isNone(t, "NetCurve above MaxCents", results(impl.NetCurve(scaleWith(0, 0), most-64000000+1, 0, 0, 1000000, 64, 0)))
	isNone(t, "NetCurve above MaxCents by one cent", results(impl.NetCurve(scaleWith(0, 0), most, 0, 0, 1, 1, 0)))
}

func TestNetCurveByFractions(t *testing.T) {
	g := lcg(95)
	for range 40 {
		for _, s := range goodScales() {
			full, start, rate, round := g.below(g.one(5, 3000, 1000000)), g.below(g.one(5, 3000)), g.one(0, 1, 5000, 10000, g.below(10000)), g.below(3)
			step, count := 1+g.below(g.one(3, 700, 999999)), 1+g.below(63)
			var want []int64
			for i := range count + 1 {
				cents := i * step
				net := cents - slowRound(slowDue(s, cents), round)
				left := full
				if cents > start {
					left = max(0, full-slowDueByRate(cents-start, rate, 3))
				}
				want = append(want, net+left)
			}
			got, ok := impl.NetCurve(s, full, start, rate, step, count, round)
			what := fmt.Sprintf("NetCurve(%v, %d, %d, %d, %d, %d, %d)", s, full, start, rate, step, count, round)
			isList(t, what, got, ok, want...)
		}
	}
}

func TestLossRates(t *testing.T) {
	const most = impl.MaxCents
	for _, c := range []struct {
		nets []int64
		step int64
		want []int64
	}{
		{[]int64{100, 90, 150}, 50, []int64{12000, -2000}},
		{[]int64{100, 150}, 50, []int64{0}},
		{[]int64{100, 100}, 50, []int64{10000}},
		{[]int64{100, 101}, 3, []int64{6666}},
		{[]int64{100, 102}, 3, []int64{3333}},
		{[]int64{100, 104}, 3, []int64{-3334}},
		{[]int64{100, 105}, 3, []int64{-6667}},
		{[]int64{100, 106}, 3, []int64{-10000}},
		{[]int64{101, 100}, 3, []int64{13333}},
		{[]int64{3, 2, 1, 0}, 1, []int64{20000, 20000, 20000}},
		{[]int64{0, 1, 3, 3}, 1, []int64{0, -10000, 10000}},
		{[]int64{0, 1000001}, 1000000, []int64{-1}}, // one hundredth of a hundredth below 0
		{[]int64{0, 999999}, 1000000, []int64{0}},
		{[]int64{0, most, 0}, 1, []int64{-9999999999990000, 10000000000010000}},
		{[]int64{0, most, 0}, 1000000, []int64{-9999990000, 10000010000}},
	} {
		got, ok := impl.LossRates(c.nets, c.step)
		isList(t, fmt.Sprintf("LossRates(%v, %d)", c.nets, c.step), got, ok, c.want...)
	}
	g := lcg(96)
	for _, nets := range goodNets() {
		step := 1 + g.below(g.one(6, 1000, 999999))
		var want []int64
		for i := 1; i < len(nets); i++ {
			want = append(want, slowDown((step-(nets[i]-nets[i-1]))*10000, step))
		}
		got, ok := impl.LossRates(nets, step)
		isList(t, fmt.Sprintf("LossRates(%v, %d)", nets, step), got, ok, want...)
	}
}

func TestWorstTrap(t *testing.T) {
	const most = impl.MaxCents
	for _, c := range []struct {
		nets        []int64
		place, long int64
	}{
		{[]int64{5, 9, 7, 8, 10}, 1, 2},
		{[]int64{1, 1}, 0, 1},
		{[]int64{2, 1}, 0, 1},
		{[]int64{most, 0}, 0, 1},
		{[]int64{0, 0}, 0, 1},
		{[]int64{0, 1, 1, 2}, 1, 1},
		{[]int64{5, 4, 6, 5, 7, 6}, 0, 3},       // greater nets between do not end it
		{[]int64{1, 9, 20, 30, 9}, 1, 3},        // none between is at most 9
		{[]int64{4, 3, 8, 7, 12, 11}, 0, 1},     // several traps of one length
		{[]int64{1, 4, 3, 2, 8, 7, 6, 5}, 4, 3}, // a longer one behind
		{[]int64{1, 4, 3, 2, 8, 7, 6}, 1, 2},
		{[]int64{3, 2, 1, 0}, 0, 3},
		{[]int64{0, 1, 2, 0}, 0, 3},
		{[]int64{1, 2, 3, 2, 1}, 0, 4},
		{slices.Repeat([]int64{7}, 65), 0, 64},
		{append(make([]int64, 1), slices.Repeat([]int64{7}, 64)...), 1, 63},
	} {
		place, long, ok := impl.WorstTrap(c.nets)
		isList(t, fmt.Sprintf("WorstTrap(%v)", c.nets), []int64{place, long}, ok, c.place, c.long)
	}
	isNone(t, "WorstTrap without a trap", results(impl.WorstTrap([]int64{1, 2})))
	isNone(t, "WorstTrap without a trap", results(impl.WorstTrap([]int64{0, 1, 2, 3, most})))
}

// The longest traps are those that a search by length finds.
func TestWorstTrapByLength(t *testing.T) {
	for _, nets := range goodNets() {
		got, long, ok := impl.WorstTrap(nets)
		place, want := 0, len(nets)
		for want > 0 && (place+want >= len(nets) || nets[place+want] > nets[place]) {
			if place++; place+want >= len(nets) {
				place, want = 0, want-1
			}
		}
		what := fmt.Sprintf("WorstTrap(%v)", nets)
		if want == 0 {
			isNone(t, what, results(got, long, ok))
			continue
		}
		isList(t, what, []int64{got, long}, ok, int64(place), int64(want))
	}
}
