package tests

import (
	"fmt"
	"math"
	"slices"
	"testing"

	"loop.example/g01393/impl"
)

// slowDrawn draws by 32-bit integers, which wrap around by themselves.
func slowDrawn(mean, wide float32, seed uint32, count int64) ([]float32, int64) {
	var drawn []float32
	for range count {
		sum := float32(0)
		for range 4 {
			seed = seed*1664525 + 1013904223
			sum = add(sum, float32(math.Ldexp(float64(seed>>8), -24)-0.5))
		}
		drawn = append(drawn, add(mean, mul(wide, sum)))
	}
	return drawn, int64(seed)
}

func TestDrawnReturns(t *testing.T) {
	got, seed, ok := impl.DrawnReturns(0.5, 0, 0, 2)
	isReals(t, "DrawnReturns without width", got, ok, 0.5, 0.5)
	isInt(t, "the seed behind two", seed, 0xa3d95fa8)
	// The first four seeds from 0 on are 3c6ef35f, 47502932, d1ccf6e9 and aaf95334.
	got, seed, ok = impl.DrawnReturns(0, 1, 0, 1)
	isReals(t, "DrawnReturns once", got, ok, float32(0x3c6ef3+0x475029+0xd1ccf6+0xaaf953-0x2000000)/(1<<24))
	isInt(t, "the seed behind one", seed, 0xaaf95334)
	for _, seed := range []int64{0, 1, 255, 256, 2147483647, 2147483648, 4294967294, 4294967295} {
		for _, count := range []int64{1, 2, 3, impl.MaxYears} {
			for _, c := range [][2]float32{{0, 1}, {0.05, 0.2}, {minusZero(), 0}, {minusZero(), minusZero()}, {0, -1}, {-0.03, 1e-30}, {number(bitsLeast), number(bitsLeast)}, {16777216, 3}, {0, number(0x7f000000)}} {
				want, behind := slowDrawn(c[0], c[1], uint32(seed), count)
				got, next, ok := impl.DrawnReturns(c[0], c[1], seed, count)
				what := fmt.Sprintf("DrawnReturns(%v, %v, %d, %d)", c[0], c[1], seed, count)
				isReals(t, what, got, ok, want...)
				isInt(t, "the seed behind "+what, next, behind)
			}
		}
	}
}

// The sum of four draws has more places than a number if it is greater than 1.
func TestDrawnReturnsAreRounded(t *testing.T) {
	g := lcg(181)
	wide := 0
	for range 3000 {
		seed, mean := g.below(4294967295), float32(g.below(1000))/10000
		want, behind := slowDrawn(mean, 0.3, uint32(seed), 9)
		got, next, ok := impl.DrawnReturns(mean, 0.3, seed, 9)
		isReals(t, fmt.Sprintf("DrawnReturns of %d", seed), got, ok, want...)
		isInt(t, "the seed behind", next, behind)
		exact, state := -2.0, uint32(seed)
		for range 4 {
			state = state*1664525 + 1013904223
			exact += math.Ldexp(float64(state>>8), -24)
		}
		if sums, _ := slowDrawn(0, 1, uint32(seed), 1); float64(sums[0]) != exact {
			wide++
		}
	}
	isTrue(t, fmt.Sprintf("some sums are rounded: %d", wide), wide > 20)
}

func TestDrawnReturnsFail(t *testing.T) {
	const last = 4294967295
	for _, x := range notFinite() {
		isNone(t, "DrawnReturns of a mean that is not finite", results(impl.DrawnReturns(x, 0, 0, 1)))
		isNone(t, "DrawnReturns of a width that is not finite", results(impl.DrawnReturns(0, x, 0, 1)))
	}
	for _, seed := range []int64{-1, last + 1, math.MinInt64, math.MaxInt64} {
		isNone(t, fmt.Sprintf("DrawnReturns of the seed %d", seed), results(impl.DrawnReturns(0, 1, seed, 1)))
	}
	for _, count := range []int64{-1, 0, impl.MaxYears + 1, math.MinInt64, math.MaxInt64} {
		isNone(t, fmt.Sprintf("DrawnReturns of %d", count), results(impl.DrawnReturns(0, 1, 5, count)))
	}
	most := number(bitsMost)
	isNone(t, "DrawnReturns that are infinite", results(impl.DrawnReturns(most, most, 0, impl.MaxYears)))
	isNone(t, "DrawnReturns that are infinite", results(impl.DrawnReturns(-most, most, 0, impl.MaxYears)))
	// From 0 on, the first draws make 0.015, and others are greater or less than 0.
	_, _, ok := impl.DrawnReturns(most, -most, 0, 1)
	isTrue(t, "DrawnReturns of a great width", ok)
}

// fund has a start and years.
type fund struct {
	start              float32
	ins, outs, returns []float32
}

// slowFund returns what a fund has, step by step.
func slowFund(f fund) []float32 {
	var row []float32
	has := f.start
	for year := range f.returns {
		has = mul(sub(add(has, f.ins[year]), f.outs[year]), add(1, f.returns[year]))
		row = append(row, has)
	}
	return row
}

func justAboveMinusOne() float32 { return number(0xbf7fffff) }

// goodFunds has funds of all lengths that end below 0, at 0, and above.
func goodFunds() []fund {
	const years = impl.MaxYears
	all := func(x float32) []float32 { return slices.Repeat([]float32{x}, years) }
	most := number(bitsMost)
	list := []fund{
		{100, []float32{0}, []float32{10}, []float32{0.5}},
		{0, []float32{0}, []float32{0}, []float32{0}},
		{minusZero(), []float32{minusZero()}, []float32{0}, []float32{0}},
		{0, []float32{4}, []float32{2}, []float32{0}},
		{0, []float32{1}, []float32{16}, []float32{0}},
		{0, []float32{1}, []float32{16.5}, []float32{0}},
		{-100, []float32{10, 20, 30}, []float32{1, 2, 3}, []float32{0.1, -0.1, 0.2}},
		{-100, []float32{0, 0, 0}, []float32{0, 0, 0}, []float32{0, 0, 0}},
		{100, []float32{5, 5}, []float32{2, 2}, []float32{justAboveMinusOne(), 0}},
		{100, []float32{-5, -5}, []float32{-2, 2}, []float32{number(0x7f000000), justAboveMinusOne()}},
		{1, []float32{0, 1}, []float32{0, 0}, []float32{1, justAboveMinusOne()}},
		{100, all(0), all(0), all(0)}, {0, all(1), all(2), all(0.03)}, {0, all(2), all(1), all(-0.03)}, {50, all(1), all(3), all(0.05)},
		{0, all(1), all(9), all(0.02)}, {0, all(1), all(100), all(0.02)}, {16777216, all(1), all(0), all(0)},
		{most, []float32{0}, []float32{most}, []float32{1}}, {most, []float32{most}, []float32{most}, []float32{0}}, {most, []float32{0}, []float32{0}, []float32{1}},
		{0, []float32{most}, []float32{0}, []float32{0}}, {0, []float32{1e37}, []float32{1.6e38}, []float32{10}}, {1, all(1), all(1), all(most)},
	}
	g := lcg(182)
	for range 400 {
		count := 1 + g.below(g.one(1, 3, 20, years-1))
		size := g.one(10, 1000, 100000)
		amount := func() float32 { return float32(g.below(size)) / 8 }
		rate := func() float32 { return float32(g.below(3000)-1000) / 10000 }
		f := fund{amount() * float32(g.one(-4, 0, 0, 4)), reals(count, amount), reals(count, amount), reals(count, rate)}
		if g.below(4) == 0 {
			f.outs = timesEach(f.outs, 9)
		}
		list = append(list, f)
	}
	return list
}

func timesEach(list []float32, by float32) []float32 {
	var products []float32
	for _, x := range list {
		products = append(products, mul(x, by))
	}
	return products
}

// badFunds has funds that are not as they must be, each for one reason.
func badFunds() []fund {
	one, two := []float32{0.5}, []float32{0.5, 0.25}
	long := slices.Repeat([]float32{0.5}, impl.MaxYears+1)
	list := []fund{
		{1, nil, nil, nil}, {1, []float32{}, []float32{}, []float32{}}, {1, long, long, long},
		{1, one, two, two}, {1, two, one, two}, {1, two, two, one}, {1, two, one, one}, {1, one, two, one}, {1, one, one, two},
		{1, nil, one, one}, {1, one, nil, one}, {1, one, one, nil},
	}
	for _, x := range notFinite() {
		list = append(list, fund{x, two, two, two})
		for _, bad := range [][]float32{{x, 1}, {1, x}} {
			list = append(list, fund{1, bad, two, two}, fund{1, two, bad, two}, fund{1, two, two, bad})
		}
	}
	for _, x := range []float32{-1, number(0xbf800001), -2, -number(bitsMost)} {
		list = append(list, fund{1, two, two, []float32{x, 1}}, fund{1, two, two, []float32{1, x}}, fund{1, one, one, []float32{x}})
	}
	return list
}

func TestRunFund(t *testing.T) {
	most := number(bitsMost)
	for _, c := range []struct {
		f    fund
		want []float32
	}{
		{fund{100, []float32{0}, []float32{10}, []float32{0.5}}, []float32{135}},
		{fund{0, []float32{1, 2, 3}, []float32{0, 0, 1}, []float32{0, 1, -0.5}}, []float32{1, 6, 4}},
		{fund{-4, []float32{1, 1}, []float32{0, 3}, []float32{1, 0}}, []float32{-6, -8}},
		{fund{4, []float32{-1}, []float32{-2}, []float32{0}}, []float32{5}},
		{fund{2, []float32{0}, []float32{2}, []float32{7}}, []float32{0}},
		{fund{minusZero(), []float32{minusZero()}, []float32{0}, []float32{0}}, []float32{minusZero()}},
		{fund{minusZero(), []float32{0}, []float32{0}, []float32{0}}, []float32{0}},
		{fund{8, []float32{0}, []float32{0}, []float32{justAboveMinusOne()}}, []float32{0x1p-21}},
		{fund{16777216, []float32{1}, []float32{1}, []float32{0}}, []float32{16777215}}, // the sum is rounded, in order
		{fund{-16777216, []float32{16777216}, []float32{0.5}, []float32{0}}, []float32{-0.5}},
		{fund{most, []float32{0}, []float32{most}, []float32{most}}, []float32{0}},
		{fund{0, []float32{0}, []float32{most}, []float32{0}}, []float32{-most}},
		{fund{number(bitsLeast), []float32{0}, []float32{0}, []float32{-0.5}}, []float32{0}},
		{fund{1, []float32{0}, []float32{0}, []float32{0x1p-25}}, []float32{1}}, // 1 plus the return is rounded first
	} {
		got, ok := impl.RunFund(c.f.start, c.f.ins, c.f.outs, c.f.returns)
		isReals(t, fmt.Sprintf("RunFund(%v)", c.f), got, ok, c.want...)
	}
	for _, f := range append(badFunds(),
		fund{most, []float32{most}, []float32{most}, []float32{0}}, // infinite in between
		fund{most, []float32{0}, []float32{0}, []float32{1}},
		fund{-most, []float32{0}, []float32{most}, []float32{0}},
		fund{most, []float32{0, 0}, []float32{0, 0}, []float32{1, -0.5}},
		fund{most, []float32{0, 0}, []float32{0, 0}, []float32{-0.5, 2}},
	) {
		isNone(t, fmt.Sprintf("RunFund(%v)", f), results(impl.RunFund(f.start, f.ins, f.outs, f.returns)))
	}
}

func TestRunFundStepByStep(t *testing.T) {
	below, above := 0, 0
	for _, f := range goodFunds() {
		got, ok := impl.RunFund(f.start, f.ins, f.outs, f.returns)
		want, what := slowFund(f), fmt.Sprintf("RunFund(%v)", f)
		if !allAre(want, finite) {
			isNone(t, what, results(got, ok))
			continue
		}
		isReals(t, what, got, ok, want...)
		if got[len(got)-1] < 0 {
			below++
		} else {
			above++
		}
	}
	isTrue(t, fmt.Sprintf("many end below 0, and many do not: %d, %d", below, above), below > 100 && above > 100)
}

// slowRate returns by what ins are multiplied, and whether this can be told.
func slowRate(f fund, rounds int64) (float32, bool) {
	low, high, known := float32(0), float32(16), true
	isEnough := func(by float32) bool {
		row := slowFund(fund{f.start, timesEach(f.ins, by), f.outs, f.returns})
		known = known && allAre(row, finite)
		return row[len(row)-1] >= 0
	}
	if !isEnough(high) {
		return 0, false
	}
	for range rounds {
		if middle := div(add(low, high), 2); isEnough(middle) {
			high = middle
		} else {
			low = middle
		}
	}
	return high, known
}

func TestFundRate(t *testing.T) {
	most := number(bitsMost)
	one := func(start, in, out, gain float32) fund {
		return fund{start, []float32{in}, []float32{out}, []float32{gain}}
	}
	for _, c := range []struct {
		f      fund
		rounds int64
		want   float32
	}{
		{one(0, 4, 2, 0), 1, 8},
		{one(0, 4, 2, 0), 4, 1},
		{one(0, 4, 2, 0), 5, 0.5}, // exactly enough
		{one(0, 4, 2, 0), 6, 0.5},
		{one(0, 4, 2, 0), 40, 0.5},
		{one(0, 1, 8, 0), 1, 8},
		{one(0, 1, 8, 0), 2, 8},
		{one(0, 1, 9, 0), 1, 16},
		{one(0, 1, 9, 0), 2, 12},
		{one(0, 1, 16, 0), 1, 16},
		{one(0, 1, 16, 0), 40, 16}, // 16 times is just enough
		{one(0, 0, 0, 0), 1, 8},
		{one(0, 0, 0, 0), 40, 0x1p-36},              // it never becomes 0
		{one(5, 0, 0, 0.5), 3, 2},                   // nothing is needed
		{one(minusZero(), minusZero(), 0, 0), 2, 4}, // -0 is at least 0
		{one(5, 1, 10, 9), 40, number(0x409fffff)},  // the sum with this is rounded to 10
		{one(0, -1, -16, 0), 40, 0x1p-36},           // less would be enough, too
		{one(0, 1, 2, justAboveMinusOne()), 40, 2},
		{one(0, most/16, 0, 0), 2, 4},
		{fund{0, []float32{1, 1}, []float32{0, 3}, []float32{1, 0}}, 40, 1},
		{fund{0, []float32{3, 0}, []float32{0, 9}, []float32{0.5, 3}}, 40, 2},
		{fund{0, []float32{1, 0}, []float32{3, -6}, []float32{1, 0}}, 40, 0x1p-36}, // less than 0 in between
	} {
		got, ok := impl.FundRate(c.f.start, c.f.ins, c.f.outs, c.f.returns, c.rounds)
		isReal(t, fmt.Sprintf("FundRate(%v, %d)", c.f, c.rounds), got, ok, c.want)
	}
	for _, f := range append(badFunds(),
		one(0, 0, 2, 0), one(-1, 0, 0, 0), // no ins are enough
		one(0, 1, 16.000002, 0), one(-1, 1, 16, 0), one(0, -1, -15.5, 0), // 16 times are not
		one(0, most/8, 0, 0), one(0, most/8, most, 0), // 16 times are infinite
		one(0, most/16, 0, 1),    // and so is what they become
		one(0, 1e37, 1.6e38, 10), // 16 times are enough, but 8 times are infinitely too few
	) {
		isNone(t, fmt.Sprintf("FundRate(%v, 20)", f), results(impl.FundRate(f.start, f.ins, f.outs, f.returns, 20)))
	}
	for _, rounds := range []int64{-1, 0, 41, math.MinInt64, math.MaxInt64} {
		isNone(t, fmt.Sprintf("FundRate in %d rounds", rounds), results(impl.FundRate(0, []float32{4}, []float32{2}, []float32{0}, rounds)))
	}
}

func TestFundRateStepByStep(t *testing.T) {
	found, failures := 0, 0
	for _, f := range goodFunds() {
		for _, rounds := range []int64{1, 2, 3, 4, 5, 8, 13, 24, 39, 40} {
			got, ok := impl.FundRate(f.start, f.ins, f.outs, f.returns, rounds)
			want, exists := slowRate(f, rounds)
			what := fmt.Sprintf("FundRate(%v, %d)", f, rounds)
			if !exists {
				isNone(t, what, results(got, ok))
				failures++
				continue
			}
			isReal(t, what, got, ok, want)
			found++
		}
	}
	isTrue(t, fmt.Sprintf("many have a rate, and some have none: %d, %d", found, failures), found > 1000 && failures > 200)
}

func TestWorthNow(t *testing.T) {
	most, least := number(bitsMost), number(bitsLeast)
	for _, c := range []struct {
		outs, returns []float32
		want          float32
	}{
		{[]float32{10, 15}, []float32{0.5, 0}, 20},
		{[]float32{10}, []float32{0.5}, 10}, // the last return does not matter
		{[]float32{10}, []float32{justAboveMinusOne()}, 10},
		{[]float32{10, 15}, []float32{0.5, most}, 20},
		{[]float32{8, 8, 8}, []float32{1, 1, 7}, 14},
		{[]float32{8, 8, 8}, []float32{-0.5, 3, 0}, 28},
		{[]float32{-8, 4}, []float32{1, 0}, -6},
		{[]float32{minusZero()}, []float32{0}, 0}, // it begins with +0
		{[]float32{16777216, 1, 1}, []float32{0, 0, 0}, 16777216},
		{[]float32{1, 1, 16777216}, []float32{0, 0, 0}, 16777218},
		{[]float32{1, most, 1}, []float32{most, most, 0}, 2}, // the product is infinite
		{[]float32{1, 1, -5}, []float32{most, 1, 0}, 1},
		{[]float32{0, 1}, []float32{justAboveMinusOne(), 0}, 16777216},
		{[]float32{most, 0}, []float32{0, 0}, most},
	} {
		got, ok := impl.WorthNow(c.outs, c.returns)
		isReal(t, fmt.Sprintf("WorthNow(%v, %v)", c.outs, c.returns), got, ok, c.want)
	}
	many := slices.Repeat([]float32{justAboveMinusOne()}, impl.MaxYears)
	for _, c := range [][2][]float32{
		{{most, most}, {0, 0}},
		{{most, most, -most}, {0, 0, 0}}, // infinite in between
		{{0, 1e38}, {-0.9, 0}},
		{{least, most}, {justAboveMinusOne(), 0}},
		{slices.Repeat([]float32{1}, impl.MaxYears), many}, // the product is 0
		{make([]float32, impl.MaxYears), many},             // and 0 divided by it is none
	} {
		isNone(t, fmt.Sprintf("WorthNow(%v)", c), results(impl.WorthNow(c[0], c[1])))
	}
	for _, f := range badFunds() {
		if len(f.outs) != len(f.returns) || len(f.outs) == 0 || len(f.outs) > impl.MaxYears || allAre(f.ins, finite) && finite(f.start) && len(f.ins) == len(f.outs) {
			isNone(t, fmt.Sprintf("WorthNow(%v, %v)", f.outs, f.returns), results(impl.WorthNow(f.outs, f.returns)))
		}
	}
}

func TestWorthNowStepByStep(t *testing.T) {
	for _, f := range goodFunds() {
		want := float32(0)
		for year, out := range f.outs {
			product := float32(1)
			for _, gain := range f.returns[:year] {
				product = mul(product, add(1, gain))
			}
			want = add(want, div(out, product))
		}
		got, ok := impl.WorthNow(f.outs, f.returns)
		what := fmt.Sprintf("WorthNow(%v, %v)", f.outs, f.returns)
		if !finite(want) {
			isNone(t, what, results(got, ok))
			continue
		}
		isReal(t, what, got, ok, want)
	}
}
