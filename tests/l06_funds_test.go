package tests

import (
	"fmt"
	"math"
	"slices"
	"testing"

	"loop.example/g01393/impl"
)

func TestFundRun(t *testing.T) {
	const most = impl.MaxCents
	all := func(n int64) []int64 { return slices.Repeat([]int64{n}, impl.MaxService) }
	for _, c := range []struct {
		start       int64
		pays, rates []int64
		fee         int64
		want        []int64
	}{
		{100, []int64{0, 50}, []int64{1000, 0}, 0, []int64{110, 160}},
		{100, []int64{0}, []int64{0}, 0, []int64{100}},
		{0, []int64{0}, []int64{10000}, 0, []int64{0}},
		{100, []int64{10}, []int64{10000}, 0, []int64{220}},
		{100, []int64{10}, []int64{10000}, 10000, []int64{0}},
		{100, []int64{10, 7}, []int64{10000, 10000}, 10000, []int64{0, 0}},
		{10000, []int64{0, 0, 0}, []int64{-9999, -9999, -9999}, 0, []int64{1, 0, 0}},
		{20000, []int64{5000, 5000, 4999}, []int64{-9999, -9999, -9999}, 0, []int64{2, 1, 0}}, // 2.5, and 0.5002
		{1, []int64{0, 0, 0}, []int64{5000, 5000, 5000}, 0, []int64{2, 3, 4}},                 // 1.5, 3 and 4.5: the even one of two
		{5, []int64{0}, []int64{-5000}, 0, []int64{2}},
		{7, []int64{0}, []int64{-5000}, 0, []int64{4}},
		{5, []int64{0}, []int64{-4999}, 0, []int64{3}},
		{5, []int64{0}, []int64{-5001}, 0, []int64{2}},
		{100, []int64{0}, []int64{0}, 199, []int64{99}}, // the fee is rounded down
		{100, []int64{0}, []int64{0}, 200, []int64{98}},
		{99, []int64{0}, []int64{0}, 100, []int64{99}},
		{99, []int64{0}, []int64{100}, 100, []int64{99}}, // 99.99 is rounded, and has a fee then
		{100, []int64{0}, []int64{0}, 9999, []int64{1}},
		{most, []int64{0}, []int64{0}, 0, []int64{most}},
		{most, []int64{most}, []int64{-5000}, 0, []int64{most}}, // the sum is more, but not returned
		{most, []int64{most}, []int64{10000}, 7500, []int64{most}},
		{most, []int64{most}, []int64{10000}, 10000, []int64{0}},
		{0, all(1), all(-9999), 0, all(0)},
		{most, all(0), all(10000), 5000, all(most)},
	} {
		got, ok := impl.FundRun(c.start, c.pays, c.rates, c.fee)
		isList(t, fmt.Sprintf("FundRun(%d, %v, %v, %d)", c.start, c.pays, c.rates, c.fee), got, ok, c.want...)
	}
	for _, c := range []struct {
		start       int64
		pays, rates []int64
		fee         int64
	}{
		{most, []int64{1}, []int64{0}, 0},
		{most, []int64{1, 0}, []int64{0, -9999}, 0}, // no amount in between
		{most/2 + 1, []int64{0}, []int64{10000}, 0},
		{most, []int64{most}, []int64{10000}, 7499},
		{0, []int64{0, 0, most}, []int64{0, 0, 1}, 0},
		{1, all(0), all(10000), 0},
		{most, all(most), all(10000), 0},
		{1, []int64{1}, []int64{-10000}, 0},
		{1, []int64{1, 1}, []int64{0}, 0},
		{1, []int64{1}, []int64{0, 0}, 0},
		{1, nil, nil, 0},
	} {
		isNone(t, fmt.Sprintf("FundRun(%d, %v, %v, %d)", c.start, c.pays, c.rates, c.fee), results(impl.FundRun(c.start, c.pays, c.rates, c.fee)))
	}
}

func TestFundRunByFractions(t *testing.T) {
	g := lcg(121)
	for _, rates := range fundRates() {
		for range 20 {
			most, fee := g.one(3, 1000, 1000000, impl.MaxCents), g.one(0, 1, 150, 5000, 10000, g.below(10000))
			start := g.below(most)
			var pays, want []int64
			for range rates {
				pays = append(pays, g.below(most))
			}
			worth, fits := start, true
			for year, rate := range rates {
				worth = slowRound(quotient(worth+pays[year], 10000+rate, 10000), 2)
				worth -= slowRound(quotient(worth, fee, 10000), 0)
				want = append(want, worth)
				if fits = worth <= impl.MaxCents; !fits {
					break
				}
			}
			got, ok := impl.FundRun(start, pays, rates, fee)
			what := fmt.Sprintf("FundRun(%d, %v, %v, %d)", start, pays, rates, fee)
			if !fits {
				isNone(t, what, results(got, ok))
				continue
			}
			isList(t, what, got, ok, want...)
		}
	}
}

func TestTimeReturn(t *testing.T) {
	for _, c := range []struct {
		rates []int64
		want  float64
	}{
		{[]int64{0, 0}, 0},
		{[]int64{0}, 0},
		{[]int64{10000}, 1},
		{[]int64{10000, -5000}, 0},
		{[]int64{500, 500, 500}, 0.05},
		{[]int64{2100, 0}, 0.1},
		{[]int64{-9999}, -0.9999},
		{slices.Repeat([]int64{10000}, impl.MaxService), 1},
		{slices.Repeat([]int64{-9999}, impl.MaxService), -0.9999},
	} {
		got, ok := impl.TimeReturn(c.rates)
		isTrue(t, fmt.Sprintf("TimeReturn(%v): got %v %v, want nearly %v", c.rates, got, ok, c.want), ok && math.Abs(float64(got)-c.want) < 1e-6)
	}
	got, ok := impl.TimeReturn([]int64{0, 0})
	isReal(t, "TimeReturn of nothing", got, ok, 0)
}

// Each operation is rounded to a 32-bit number.
func TestTimeReturnStepByStep(t *testing.T) {
	wide := 0
	for _, rates := range fundRates() {
		sum, exact := float32(0), 0.0
		for _, rate := range rates {
			log := float32(slowLog(float64(add(1, div(float32(rate), 10000)))))
			sum = add(sum, log)
			exact += math.Log1p(float64(rate) / 10000)
		}
		want := sub(float32(slowExp(float64(div(sum, float32(len(rates)))))), 1)
		got, ok := impl.TimeReturn(rates)
		isReal(t, fmt.Sprintf("TimeReturn(%v)", rates), got, ok, want)
		mean := math.Expm1(exact / float64(len(rates)))
		isTrue(t, fmt.Sprintf("TimeReturn(%v): got %v, nearly %v", rates, got, mean), math.Abs(float64(got)-mean) < 1e-4)
		if got != float32(mean) {
			wide++
		}
	}
	isTrue(t, "some are not the nearest numbers", wide > 20)
}

func TestValueOfFlows(t *testing.T) {
	most := slices.Repeat([]int64{1000000000}, impl.MaxService)
	for _, c := range []struct {
		flows      []int64
		rate, want float32
	}{
		{[]int64{-100, 100}, 0, 0},
		{[]int64{-100, 125}, 0.25, 0},
		{[]int64{-100, 125}, -0.5, 150},
		{[]int64{-100, 125}, 1, -37.5},
		{[]int64{0, 0}, 0.1, 0},
		{[]int64{0, 0}, -0.5, 0},
		{[]int64{1, 2, 4}, 1, 3},
		{[]int64{1, 2, 4}, -0.5, 21},
		{[]int64{1, 2, 4}, minusZero(), 7},
		{[]int64{4, 2, 1}, 1, 5.25},
		{[]int64{-4, -2, -1}, 1, -5.25},
		{[]int64{0, 16777217}, 0, 16777216}, // as a 32-bit number
		{[]int64{1, 16777216}, 0, 16777216}, // and so is the sum
		{[]int64{-1000000000, 1000000000}, 0, 0},
		{most, 1, 2000000000},
		{most, -0.5, 1000000000 * 0x1p60},
	} {
		got, ok := impl.ValueOfFlows(c.flows, c.rate)
		isReal(t, fmt.Sprintf("ValueOfFlows(%v, %v)", c.flows, c.rate), got, ok, c.want)
	}
}

// slowFlows returns the value of flows, from the last one on, step by step.
func slowFlows(flows []int64, rate float32) float32 {
	value := float32(0)
	for i := len(flows) - 1; i >= 0; i-- {
		value = add(float32(flows[i]), div(value, add(1, rate)))
	}
	return value
}

// flowLists has flows of all lengths and signs.
func flowLists() [][]int64 {
	const most = 1000000000
	all := [][]int64{
		{-100, 125}, {100, -125}, {0, 0}, {1, 1}, {-1, -1}, {0, 1}, {-1, 0}, {-100, 0, 125}, {-1, 2}, {1, -2}, {-2, 1}, {2, -1},
		{-100, 230, -132}, {-most, most}, {most, -most}, {-1, 0, 0, 0, 1}, make([]int64, impl.MaxService),
		slices.Repeat([]int64{most}, impl.MaxService), slices.Repeat([]int64{-most, most}, impl.MaxService/2),
		append([]int64{-most}, slices.Repeat([]int64{most / 20}, impl.MaxService-1)...),
	}
	g := lcg(122)
	for range 300 {
		most := g.one(2, 100, 100000, 1000000000)
		flows := []int64{-g.below(most)}
		for range 1 + g.below(g.one(1, 5, impl.MaxService-2)) {
			flows = append(flows, g.below(2*most)-most)
		}
		all = append(all, flows)
	}
	return all
}

func TestValueOfFlowsStepByStep(t *testing.T) {
	for _, flows := range flowLists() {
		for _, rate := range append(goodInterest(), -0.5, -0.1, -0.03, number(0xbeffffff), number(0x80000001), -1.0/3) {
			got, ok := impl.ValueOfFlows(flows, rate)
			isReal(t, fmt.Sprintf("ValueOfFlows(%v, %v)", flows, rate), got, ok, slowFlows(flows, rate))
		}
	}
}

func TestInnerRate(t *testing.T) {
	for _, c := range []struct {
		flows  []int64
		rounds int64
		want   float32
	}{
		{[]int64{-100, 125}, 1, 0.625}, // at the first middle, 0.25, the value is 0, which is not less than 0
		{[]int64{-100, 125}, 2, 0.4375},
		{[]int64{100, -125}, 1, -0.125},
		{[]int64{100, -125}, 2, 0.0625},
		{[]int64{-100, 100}, 1, -0.125},
		{[]int64{-100, 100}, 2, 0.0625},
		{[]int64{100, -100}, 2, 0.0625},
		{[]int64{-100, 50}, 1, -0.125}, // 0 at -0.5, and less than 0 at 1
		{[]int64{-100, 50}, 2, -0.3125},
		{[]int64{100, -200}, 1, 0.625}, // less than 0 at -0.5, and 0 at 1
		{[]int64{100, -200}, 32, number(0x3f7ffffe)},
		{[]int64{-1, 0, 0, 0, 1}, 3, -0.03125},
	} {
		got, ok := impl.InnerRate(c.flows, c.rounds)
		isReal(t, fmt.Sprintf("InnerRate(%v, %d)", c.flows, c.rounds), got, ok, c.want)
	}
	for _, flows := range [][]int64{
		{0, 0}, {0, 0, 0}, {1, 1}, {0, 1}, {1, 0}, // at least 0 at both ends
		{-1, -1}, {0, -1}, {-1, 0}, // less than 0 at both ends
		{100, -50},                                       // 0 at -0.5, and more at 1
		{-100, 200},                                      // more than 0 at -0.5, and 0 at 1
		{-100, 230, -132},                                // two rates in between
		{-100, 49}, {-100, 201}, {100, -49}, {100, -201}, // a rate just outside
	} {
		isNone(t, fmt.Sprintf("InnerRate of %v", flows), results(impl.InnerRate(flows, 5)))
	}
}

// slowInner halves the interval of two ends, of which one is less than 0.
func slowInner(flows []int64, rounds int64) (float32, bool) {
	low, high := float32(-0.5), float32(1)
	first := slowFlows(flows, low) < 0
	if first == (slowFlows(flows, high) < 0) {
		return 0, false
	}
	for range rounds {
		middle := div(add(low, high), 2)
		if slowFlows(flows, middle) < 0 == first {
			low = middle
		} else {
			high = middle
		}
	}
	return div(add(low, high), 2), true
}

func TestInnerRateStepByStep(t *testing.T) {
	found := 0
	for _, flows := range flowLists() {
		for rounds := int64(1); rounds <= 32; rounds++ {
			what := fmt.Sprintf("InnerRate(%v, %d)", flows, rounds)
			got, ok := impl.InnerRate(flows, rounds)
			want, exists := slowInner(flows, rounds)
			if !exists {
				isNone(t, what, results(got, ok))
				continue
			}
			isReal(t, what, got, ok, want)
			found++
		}
		if rate, ok := impl.InnerRate(flows, 32); ok && len(flows) < 6 {
			value, most := slowFlows(flows, rate), float64(slices.Max(flows)-slices.Min(flows))
			isTrue(t, fmt.Sprintf("flows %v are worth nearly nothing at %v: %v", flows, rate, value), math.Abs(float64(value)) <= most/1000)
		}
	}
	isTrue(t, "many flows have a rate", found > 2000)
}

func TestDrawDown(t *testing.T) {
	const most = impl.MaxCents
	for _, c := range []struct {
		start int64
		rates []int64
		draw  int64
		left  []int64
		years int64
	}{
		{100, []int64{0, 0, 0}, 50, []int64{50, 0, 0}, 2},
		{100, []int64{0, 0}, 50, []int64{50, 0}, 2},
		{100, []int64{0, 0}, 51, []int64{49, 0}, 1},
		{100, []int64{0, 0}, 100, []int64{0, 0}, 1},
		{100, []int64{0, 0}, 101, []int64{0, 0}, 0},
		{100, []int64{0, 0}, 0, []int64{100, 100}, 2},
		{0, []int64{0, 0}, 0, []int64{0, 0}, 2}, // a draw of 0 can always be taken
		{0, []int64{0, 0}, 1, []int64{0, 0}, 0},
		{100, []int64{1000, 1000}, 10, []int64{99, 97}, 2}, // 99, and 97.9
		{100, []int64{-9999, 0}, 0, []int64{0, 0}, 2},
		{100, []int64{-9999, 0}, 1, []int64{0, 0}, 1},
		{10001, []int64{-9999, 10000}, 1, []int64{1, 0}, 2}, // just can be taken in the last year
		{10000, []int64{-9999, 10000}, 1, []int64{0, 0}, 1}, // just can't
		{3, []int64{5000, 5000}, 0, []int64{4, 6}, 2},
		{3, []int64{5000, 5000, 5000}, 2, []int64{1, 0, 0}, 1},
		{most, []int64{0}, 0, []int64{most}, 1},
		{most, []int64{0}, most, []int64{0}, 1},
		{most - 1, []int64{0}, most, []int64{0}, 0},
		{most, []int64{10000}, most / 2, []int64{most}, 1},
		{most, []int64{1, 1}, 100000000, []int64{999999990000, 999999979999}, 2},
	} {
		left, years, ok := impl.DrawDown(c.start, c.rates, c.draw)
		what := fmt.Sprintf("DrawDown(%d, %v, %d)", c.start, c.rates, c.draw)
		isList(t, what, left, ok, c.left...)
		isInt(t, "years of "+what, years, c.years)
	}
	for _, c := range []struct {
		start int64
		rates []int64
		draw  int64
	}{
		{most, []int64{1}, 0},
		{most, []int64{1, -9999}, 0}, // no amount in between
		{most, []int64{10000}, most/2 - 1},
		{1, slices.Repeat([]int64{10000}, impl.MaxService), 0},
		{most, slices.Repeat([]int64{10000}, impl.MaxService), 1},
		{most, []int64{-10000}, 0},
	} {
		isNone(t, fmt.Sprintf("DrawDown(%d, %v, %d)", c.start, c.rates, c.draw), results(impl.DrawDown(c.start, c.rates, c.draw)))
	}
}

// slowDraw returns what is left, at most most of it, and for how many years draw is taken whole.
func slowDraw(start int64, rates []int64, draw, most int64) ([]int64, int64) {
	var left []int64
	years, rest := int64(0), start
	for _, rate := range rates {
		if rest < draw {
			rest = 0
		} else {
			rest, years = rest-draw, years+1
		}
		rest = min(most, slowRound(quotient(rest, 10000+rate, 10000), 0))
		left = append(left, rest)
	}
	return left, years
}

func TestDrawDownByFractions(t *testing.T) {
	g := lcg(123)
	failures, short := 0, 0
	for _, rates := range fundRates() {
		for range 20 {
			start := g.below(g.one(10, 100000, impl.MaxCents))
			draw := g.below(start/g.one(1, 3, 20, 100) + g.one(0, 1))
			want, years := slowDraw(start, rates, draw, impl.MaxCents+1)
			left, count, ok := impl.DrawDown(start, rates, draw)
			what := fmt.Sprintf("DrawDown(%d, %v, %d)", start, rates, draw)
			if slices.Contains(want, impl.MaxCents+1) {
				isNone(t, what, results(left, count, ok))
				failures++
				continue
			}
			isList(t, what, left, ok, want...)
			isInt(t, "years of "+what, count, years)
			if years > 0 && int(years) < len(rates) {
				short++
			}
		}
	}
	isTrue(t, fmt.Sprintf("some fail, and some draws are not always taken: %d, %d", failures, short), failures > 50 && short > 300)
}

func TestSafeDraw(t *testing.T) {
	const most = 1000000000
	all := func(n int64) []int64 { return slices.Repeat([]int64{n}, impl.MaxService) }
	for _, c := range []struct {
		start int64
		rates []int64
		want  int64
	}{
		{100, []int64{0, 0, 0}, 33},
		{100, []int64{0, 0}, 50},
		{101, []int64{0, 0}, 50},
		{100, []int64{0}, 100},
		{100, []int64{-9999}, 100}, // the last year's rate does not matter
		{100, []int64{10000}, 100},
		{100, []int64{10000, 0}, 66}, // 34 become 68
		{100, []int64{-5000, 0}, 33}, // 67 become 33
		{99, []int64{-5000, 0}, 33},
		{98, []int64{-5000, 0}, 32},
		{100, []int64{-9999, 10000}, 0},
		{10000, []int64{-9999, 10000}, 0},
		{10001, []int64{-9999, 10000}, 1},
		{0, []int64{0}, 0},
		{0, all(10000), 0},
		{1, all(0), 0},
		{59, all(0), 0},
		{60, all(0), 1},
		{most, []int64{0}, most},
		{most, all(0), 16666666},
		{most, all(-9999), 0},
		{most, all(10000), most / 2}, // half of it is there again in each year
		{most, append(slices.Repeat([]int64{10000}, 10), -9999, -9999, 0), 9999},                       // 1024000000000 count as MaxCents
		{most, append(slices.Repeat([]int64{10000}, 11), -8000, -5000, -7500, 0, -9900, 0), 244140625}, // one cent less than MaxCents is not enough for this
		{1, all(10000), 0},
		{2, all(10000), 1},
		{3, all(10000), 1},
	} {
		got, ok := impl.SafeDraw(c.start, c.rates)
		isTold(t, fmt.Sprintf("SafeDraw(%d, %v)", c.start, c.rates), got, ok, c.want)
	}
	for _, start := range []int64{-1, most + 1, impl.MaxCents} {
		isNone(t, fmt.Sprintf("SafeDraw(%d)", start), results(impl.SafeDraw(start, []int64{0})))
	}
}

// The draw is found one cent after another, as long as it can be taken.
func TestSafeDrawCentByCent(t *testing.T) {
	g := lcg(124)
	for _, rates := range fundRates() {
		for _, start := range []int64{0, 1, 2, 5, 60, 100, g.below(300)} {
			want := int64(0)
			for {
				_, years := slowDraw(start, rates, want+1, impl.MaxCents)
				if int(years) < len(rates) {
					break
				}
				want++
			}
			got, ok := impl.SafeDraw(start, rates)
			isTold(t, fmt.Sprintf("SafeDraw(%d, %v)", start, rates), got, ok, want)
		}
	}
}

// Any number of workers makes the same.
func TestDrawsShared(t *testing.T) {
	const most = 1000000000
	for _, c := range []struct{ starts, rates, want []int64 }{
		{[]int64{100, 30}, []int64{0, 0}, []int64{50, 15}},
		{[]int64{30, 100}, []int64{0, 0}, []int64{15, 50}},
		{[]int64{100}, []int64{0}, []int64{100}},
		{[]int64{0, 0, 0}, []int64{10000}, []int64{0, 0, 0}},
		{[]int64{0, 1, 2, 3, 4, 5, 6, 7, 8, 9, 10, 11, 12, 13, 14, 15}, []int64{0, 0, 0}, []int64{0, 0, 0, 1, 1, 1, 2, 2, 2, 3, 3, 3, 4, 4, 4, 5}},
		{[]int64{most, most - 1}, []int64{0, 0}, []int64{most / 2, most/2 - 1}},
	} {
		for workers := int64(1); workers <= impl.MaxWorkers; workers++ {
			got, ok := impl.DrawsShared(c.starts, c.rates, workers)
			isList(t, fmt.Sprintf("DrawsShared(%v, %v, %d)", c.starts, c.rates, workers), got, ok, c.want...)
		}
	}
}

func TestDrawsSharedByAnyWorkers(t *testing.T) {
	g := lcg(125)
	for _, rates := range fundRates() {
		var starts, want []int64
		for range 1 + g.below(15) {
			start := g.below(g.one(10, 1000, 1000000000))
			draw, _ := impl.SafeDraw(start, rates)
			starts, want = append(starts, start), append(want, draw)
		}
		bad := slices.Clone(starts)
		bad[g.below(int64(len(bad)-1))] = g.one(-1, 1000000001, math.MinInt64, math.MaxInt64)
		for workers := int64(1); workers <= impl.MaxWorkers; workers++ {
			got, ok := impl.DrawsShared(starts, rates, workers)
			isList(t, fmt.Sprintf("DrawsShared(%v, %v, %d)", starts, rates, workers), got, ok, want...)
			isNone(t, fmt.Sprintf("DrawsShared(%v, %v, %d)", bad, rates, workers), results(impl.DrawsShared(bad, rates, workers)))
		}
	}
}
