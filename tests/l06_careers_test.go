package tests

import (
	"fmt"
	"math/big"
	"slices"
	"testing"

	"loop.example/g01393/impl"
)

func TestPointsOf(t *testing.T) {
	const most = impl.MaxCents
	for _, c := range []struct {
		pays, means []int64
		most        int64
		want        []int64
	}{
		{[]int64{30}, []int64{40}, 1000000, []int64{7500}},
		{[]int64{30, 90}, []int64{40, 40}, 20000, []int64{7500, 20000}},
		{[]int64{30, 90}, []int64{40, 40}, 22500, []int64{7500, 22500}},
		{[]int64{30, 90}, []int64{40, 40}, 22499, []int64{7500, 22499}},
		{[]int64{30, 90, 0}, []int64{40, 40, 1}, 0, []int64{0, 0, 0}},
		{[]int64{0}, []int64{1}, 1000000, []int64{0}},
		{[]int64{1}, []int64{1}, 1000000, []int64{10000}},
		{[]int64{100}, []int64{1}, 1000000, []int64{1000000}},
		{[]int64{101}, []int64{1}, 1000000, []int64{1000000}},
		{[]int64{most}, []int64{1}, 1000000, []int64{1000000}},
		{[]int64{most, most}, []int64{most, most - 1}, 1000000, []int64{10000, 10000}},
		{[]int64{1}, []int64{most}, 1000000, []int64{0}},
		{[]int64{1, 3, 5}, []int64{20000, 20000, 20000}, 1000000, []int64{1, 2, 3}}, // halves
		{[]int64{1, 1}, []int64{20001, 19999}, 1000000, []int64{0, 1}},
		{[]int64{2, 1, 2}, []int64{3, 3, 30000}, 1000000, []int64{6667, 3333, 1}},
		{slices.Repeat([]int64{most}, impl.MaxService), slices.Repeat([]int64{most}, impl.MaxService), 9999, slices.Repeat([]int64{9999}, impl.MaxService)},
	} {
		got, ok := impl.PointsOf(c.pays, c.means, c.most)
		isList(t, fmt.Sprintf("PointsOf(%v, %v, %d)", c.pays, c.means, c.most), got, ok, c.want...)
	}
	for _, means := range [][]int64{{40}, {40, 40, 40}, {40, 0}, {0, 40}, {-1, 40}, {40, most + 1}, nil} {
		isNone(t, fmt.Sprintf("PointsOf by the means %v", means), results(impl.PointsOf([]int64{30, 90}, means, 20000)))
	}
	isNone(t, "PointsOf no pays", results(impl.PointsOf(nil, []int64{}, 20000)))
}

func TestPointsOfByFractions(t *testing.T) {
	g := lcg(111)
	for range 5000 {
		var means, want []int64
		pays, most := g.list(impl.MaxService, g.one(10, 500000, impl.MaxCents)), g.one(0, 1, 9999, 20000, 1000000)
		for _, pay := range pays {
			mean := 1 + g.below(g.one(10, 500000, impl.MaxCents-1))
			means = append(means, mean)
			want = append(want, min(most, slowNear(quotient(pay, 10000, mean))))
		}
		got, ok := impl.PointsOf(pays, means, most)
		isList(t, fmt.Sprintf("PointsOf(%v, %v, %d)", pays, means, most), got, ok, want...)
	}
}

func TestPointPension(t *testing.T) {
	whole := slices.Repeat([]int64{1000000}, impl.MaxService)
	for _, c := range []struct {
		points              []int64
		value, factor, want int64
	}{
		{[]int64{10000, 5000}, 300, 9000, 405},
		{[]int64{10000, 5000}, 300, 10000, 450},
		{[]int64{10000, 5000}, 300, 0, 0},
		{[]int64{10000, 5000}, 0, 30000, 0},
		{[]int64{0}, 100000, 30000, 0},
		{[]int64{9999}, 1, 30000, 0},        // rounded down before it is tripled
		{[]int64{9999, 1}, 1, 30000, 3},     // the sum is not rounded
		{[]int64{9999, 9999}, 1, 30000, 3},  // once
		{[]int64{10000, 9999}, 1, 19999, 1}, // 1.9999
		{[]int64{3333, 3333, 3333}, 3, 1, 0},
		{[]int64{1000000}, 100000, 30000, 30000000},
		{whole, 100000, 30000, 1800000000},
		{whole, 99999, 29999, 1799922000},
	} {
		got, ok := impl.PointPension(c.points, c.value, c.factor)
		isTold(t, fmt.Sprintf("PointPension(%v, %d, %d)", c.points, c.value, c.factor), got, ok, c.want)
	}
	g := lcg(112)
	for range 3000 {
		points := g.list(impl.MaxService, g.one(10, 20000, 1000000))
		value, factor := g.below(g.one(10, 100000)), g.below(g.one(10, 30000))
		got, ok := impl.PointPension(points, value, factor)
		want := slowRound(quotient(slowRound(quotient(sumOf(points), value, 10000), 0), factor, 10000), 0)
		isTold(t, fmt.Sprintf("PointPension(%v, %d, %d)", points, value, factor), got, ok, want)
	}
}

func TestAgeFactor(t *testing.T) {
	for _, c := range []struct{ months, early, late, least, want int64 }{
		{-12, 30, 50, 8000, 9640},
		{10, 30, 50, 8000, 10500},
		{0, 200, 200, 10000, 10000},
		{0, 30, 50, 0, 10000},
		{-1, 30, 50, 0, 9970},
		{1, 30, 50, 0, 10050},
		{1, 30, 50, 10000, 10050},
		{1, 30, 0, 10000, 10000},
		{-1, 0, 50, 10000, 10000},
		{-1, 1, 50, 10000, 10000}, // at least least
		{-66, 30, 50, 8020, 8020}, // just reached
		{-67, 30, 50, 8020, 8020},
		{-65, 30, 50, 8020, 8050},
		{-66, 30, 50, 8019, 8020}, // not reached
		{-66, 30, 50, 8021, 8021},
		{-50, 200, 0, 0, 0},
		{-51, 200, 0, 0, 0},
		{-49, 200, 0, 0, 200},
		{-600, 200, 200, 0, 0},
		{-600, 200, 200, 1, 1},
		{-600, 16, 200, 0, 400},
		{-600, 0, 200, 0, 10000},
		{600, 200, 200, 0, 130000},
		{600, 200, 0, 0, 10000},
		{600, 0, 1, 10000, 10600},
	} {
		got, ok := impl.AgeFactor(c.months, c.early, c.late, c.least)
		isTold(t, fmt.Sprintf("AgeFactor(%d, %d, %d, %d)", c.months, c.early, c.late, c.least), got, ok, c.want)
	}
}

// Each month takes or gives its part, one after another.
func TestAgeFactorMonthByMonth(t *testing.T) {
	g := lcg(113)
	for range 300 {
		early, late, least := g.below(200), g.below(200), g.below(10000)
		down, up := int64(10000), int64(10000)
		for months := range int64(601) {
			what := fmt.Sprintf("%d, %d, %d, %d)", months, early, late, least)
			got, ok := impl.AgeFactor(-months, early, late, least)
			isTold(t, "AgeFactor(-"+what, got, ok, down)
			got, ok = impl.AgeFactor(months, early, late, least)
			isTold(t, "AgeFactor("+what, got, ok, up)
			down, up = max(least, down-early), up+late
		}
	}
}

func TestSpans(t *testing.T) {
	const most = impl.MaxMonths
	for _, c := range []struct {
		spans []int64
		count int64
		gaps  []int64
	}{
		{[]int64{0, 10, 5, 15}, 15, nil},
		{[]int64{0, 10, 5, 15, 20, 22}, 17, []int64{15, 20}},
		{[]int64{20, 22, 0, 10}, 12, []int64{10, 20}},
		{[]int64{0, 1}, 1, nil},
		{[]int64{0, most}, most, nil},
		{[]int64{most - 1, most, 0, 1}, 2, []int64{1, most - 1}},
		{[]int64{0, 10, 10, 20}, 20, nil}, // they touch
		{[]int64{10, 20, 0, 10}, 20, nil},
		{[]int64{0, 10, 11, 20}, 19, []int64{10, 11}}, // a gap of one month
		{[]int64{11, 20, 0, 10}, 19, []int64{10, 11}},
		{[]int64{0, 100, 20, 30}, 100, nil}, // one lies in the other
		{[]int64{20, 30, 0, 100}, 100, nil},
		{[]int64{0, 30, 0, 100}, 100, nil}, // they begin together
		{[]int64{0, 100, 0, 30}, 100, nil},
		{[]int64{0, 100, 70, 100}, 100, nil}, // they end together
		{[]int64{70, 100, 0, 100}, 100, nil},
		{[]int64{5, 9, 20, 21, 5, 9}, 5, []int64{9, 20}}, // one is told twice
		{[]int64{0, 100, 20, 30, 40, 50, 110, 120}, 110, []int64{100, 110}},
		{[]int64{0, 3, 1, 4, 2, 5, 7, 9, 6, 8, 10, 11}, 9, []int64{5, 6, 9, 10}},
		{[]int64{8, 9, 6, 7, 4, 5, 2, 3}, 4, []int64{3, 4, 5, 6, 7, 8}},
		{slices.Repeat([]int64{7, 9}, impl.MaxCareer), 2, nil},
	} {
		count, ok := impl.CountMonths(c.spans)
		isTold(t, fmt.Sprintf("CountMonths(%v)", c.spans), count, ok, c.count)
		gaps, ok := impl.GapsOf(c.spans)
		isList(t, fmt.Sprintf("GapsOf(%v)", c.spans), gaps, ok, c.gaps...)
	}
}

func TestWaitEnd(t *testing.T) {
	const most = impl.MaxMonths
	two := []int64{20, 30, 5, 15}
	for _, c := range []struct {
		spans        []int64
		months, want int64
	}{
		{[]int64{0, 10, 20, 30}, 12, 22},
		{two, 0, 0}, // no month is needed, so that none must go by
		{two, 1, 6},
		{two, 9, 14},
		{two, 10, 15},
		{two, 11, 21},
		{two, 20, 30},
		{[]int64{0, most}, most, most},
		{[]int64{0, most}, 0, 0},
		{[]int64{most - 1, most}, 1, most},
		{[]int64{most - 1, most}, 0, 0},
		{[]int64{0, 10, 5, 15}, 12, 12},
		{[]int64{0, 10, 2, 3, 20, 30}, 11, 21},
	} {
		got, ok := impl.WaitEnd(c.spans, c.months)
		isTold(t, fmt.Sprintf("WaitEnd(%v, %d)", c.spans, c.months), got, ok, c.want)
	}
	for _, months := range []int64{21, 22, most, most + 1, -1} {
		isNone(t, fmt.Sprintf("WaitEnd of %d months", months), results(impl.WaitEnd(two, months)))
	}
	isNone(t, "WaitEnd of one month more than all", results(impl.WaitEnd([]int64{0, most}, most+1)))
}

// Months are counted one by one.
func TestSpansMonthByMonth(t *testing.T) {
	seen := 0
	for _, spans := range spanLists() {
		set := monthSet(spans)
		count, ok := impl.CountMonths(spans)
		isTold(t, fmt.Sprintf("CountMonths(%v)", spans), count, ok, int64(len(set)))
		var gaps []int64
		before := int64(0)
		for month := range int64(impl.MaxMonths + 1) {
			isGap := before > 0 && before < count && !set[month]
			if isGap && set[month-1] {
				gaps = append(gaps, month, month)
			}
			if isGap {
				gaps[len(gaps)-1] = month + 1
			}
			if set[month] {
				before++
				end, ok := impl.WaitEnd(spans, before)
				isTold(t, fmt.Sprintf("WaitEnd(%v, %d)", spans, before), end, ok, month+1)
			}
		}
		got, ok := impl.GapsOf(spans)
		isList(t, fmt.Sprintf("GapsOf(%v)", spans), got, ok, gaps...)
		isNone(t, fmt.Sprintf("WaitEnd(%v, %d)", spans, count+1), results(impl.WaitEnd(spans, count+1)))
		end, ok := impl.WaitEnd(spans, 0)
		isTold(t, fmt.Sprintf("WaitEnd(%v, 0)", spans), end, ok, 0)
		seen += len(gaps)
	}
	isTrue(t, "there are many gaps", seen > 1000)
}

func TestIndexPays(t *testing.T) {
	const most = impl.MaxCents
	for _, c := range []struct{ pays, growth, want []int64 }{
		{[]int64{100, 100}, []int64{500}, []int64{105, 100}},
		{[]int64{100}, nil, []int64{100}},
		{[]int64{0}, []int64{}, []int64{0}},
		{[]int64{most}, nil, []int64{most}},
		{[]int64{100, 200, 300}, []int64{1000, 10000}, []int64{220, 400, 300}},
		{[]int64{100, 200, 300}, []int64{0, 0}, []int64{100, 200, 300}},
		{[]int64{1, 3, 1}, []int64{5000, 5000}, []int64{3, 5, 1}}, // a half in each year
		{[]int64{1, 1}, []int64{4999}, []int64{1, 1}},
		{[]int64{2, 2, 2}, []int64{2500, 2500}, []int64{4, 3, 2}}, // 2.5 is 3, and 3.75 is 4
		{[]int64{most / 2, most}, []int64{10000}, []int64{most, most}},
		{[]int64{most, most, most}, []int64{0, 0}, []int64{most, most, most}},
	} {
		got, ok := impl.IndexPays(c.pays, c.growth)
		isList(t, fmt.Sprintf("IndexPays(%v, %v)", c.pays, c.growth), got, ok, c.want...)
	}
	all := func(pay int64) []int64 { return slices.Repeat([]int64{pay}, impl.MaxService) }
	growth := slices.Repeat([]int64{10000}, impl.MaxService-1)
	got, ok := impl.IndexPays(all(0), growth)
	isList(t, "IndexPays of nothing", got, ok, all(0)...)
	for _, c := range []struct{ pays, growth []int64 }{
		{[]int64{most/2 + 1, 0}, []int64{10000}},
		{[]int64{most, 0, 0}, []int64{1, 0}},
		{[]int64{0, most, 0}, []int64{0, 1}},
		{all(1), growth},
		{all(most), growth},
		{[]int64{100, 100}, nil},
		{[]int64{100, 100}, []int64{1, 1}},
		{[]int64{100}, []int64{1}},
		{nil, nil},
		{[]int64{100, 100}, []int64{10001}},
		{[]int64{100, 100}, []int64{-1}},
	} {
		isNone(t, fmt.Sprintf("IndexPays(%v, %v)", c.pays, c.growth), results(impl.IndexPays(c.pays, c.growth)))
	}
}

func TestIndexPaysByFractions(t *testing.T) {
	g := lcg(114)
	failures := 0
	for range 3000 {
		pays, most := g.list(g.one(2, 5, impl.MaxService), g.one(10, 5000, impl.MaxCents)), g.one(1, 700, 10000)
		var growth []int64
		for range len(pays) - 1 {
			growth = append(growth, g.below(most))
		}
		want, fits := slices.Clone(pays), true
		for i := range want {
			for _, rate := range growth[i:] {
				if fits = fits && want[i] <= impl.MaxCents; fits {
					want[i] = slowNear(quotient(want[i], 10000+rate, 10000))
				}
			}
			fits = fits && want[i] <= impl.MaxCents
		}
		got, ok := impl.IndexPays(pays, growth)
		what := fmt.Sprintf("IndexPays(%v, %v)", pays, growth)
		if !fits {
			isNone(t, what, results(got, ok))
			failures++
			continue
		}
		isList(t, what, got, ok, want...)
	}
	isTrue(t, "some are no amounts", failures > 100 && failures < 2000)
}

func TestBestYears(t *testing.T) {
	const most = impl.MaxCents
	for _, c := range []struct {
		pays        []int64
		count, want int64
	}{
		{[]int64{1, 9, 4}, 2, 6},
		{[]int64{1, 9, 4}, 1, 9},
		{[]int64{1, 9, 4}, 3, 4},
		{[]int64{9, 1, 9}, 2, 9},
		{[]int64{0}, 1, 0},
		{[]int64{0, 0, 1}, 2, 0},
		{[]int64{0, 1, 1}, 3, 0},
		{[]int64{most, most - 1}, 2, most - 1},
		{slices.Repeat([]int64{most}, impl.MaxService), impl.MaxService, most},
	} {
		got, ok := impl.BestYears(c.pays, c.count)
		isTold(t, fmt.Sprintf("BestYears(%v, %d)", c.pays, c.count), got, ok, c.want)
	}
}

func TestBestSpan(t *testing.T) {
	const most = impl.MaxCents
	for _, c := range []struct {
		pays              []int64
		count, first, sum int64
	}{
		{[]int64{1, 9, 4}, 2, 1, 13},
		{[]int64{1, 9, 4}, 1, 1, 9},
		{[]int64{1, 9, 4}, 3, 0, 14},
		{[]int64{9, 4, 1}, 2, 0, 13},
		{[]int64{4, 9, 4}, 2, 0, 13}, // equal sums
		{[]int64{1, 4, 9, 4, 9}, 2, 1, 13},
		{[]int64{0, 0, 0}, 2, 0, 0},
		{[]int64{7}, 1, 0, 7},
		{[]int64{9, 0, 5, 5}, 2, 2, 10}, // not the best years by themselves
		{[]int64{0, most, 0}, 2, 0, most},
		{[]int64{most, most}, 1, 0, most},
		{[]int64{1, most - 1}, 2, 0, most},
	} {
		first, sum, ok := impl.BestSpan(c.pays, c.count)
		isList(t, fmt.Sprintf("BestSpan(%v, %d)", c.pays, c.count), []int64{first, sum}, ok, c.first, c.sum)
	}
	// The sum must be an amount, though others are.
	for _, pays := range [][]int64{{most, 1}, {1, most}, {1, 1, most}, {most, 1, 1}, {most, most}} {
		isNone(t, fmt.Sprintf("BestSpan(%v, 2)", pays), results(impl.BestSpan(pays, 2)))
	}
	isNone(t, "BestSpan of all", results(impl.BestSpan(slices.Repeat([]int64{most}, impl.MaxService), impl.MaxService)))
}

// The greatest pays are found by taking away one after another.
func TestBestYearsOneByOne(t *testing.T) {
	g := lcg(115)
	for range 2000 {
		pays := g.list(g.one(3, 10, impl.MaxService), g.one(2, 100, impl.MaxCents/impl.MaxService))
		rest, sum := slices.Clone(pays), int64(0)
		for count := int64(1); count <= int64(len(pays)); count++ {
			best := slices.Max(rest)
			place := slices.Index(rest, best)
			rest, sum = slices.Delete(rest, place, place+1), sum+best
			what := fmt.Sprintf("(%v, %d)", pays, count)
			got, ok := impl.BestYears(pays, count)
			isTold(t, "BestYears"+what, got, ok, slowRound(big.NewRat(sum, count), 0))

			first, most, ok := impl.BestSpan(pays, count)
			isTrue(t, "BestSpan"+what, ok && sumOf(pays[first:first+count]) == most)
			for i := range int64(len(pays)) - count + 1 {
				other := sumOf(pays[i : i+count])
				isTrue(t, fmt.Sprintf("BestSpan%s: got %d %d, but %d from %d on", what, first, most, other, i), other < most || other == most && i >= first)
			}
		}
	}
}

func TestSurvivorShare(t *testing.T) {
	const most = impl.MaxCents
	for _, c := range []struct{ pension, rate, own, free, taper, want int64 }{
		{1000, 6000, 300, 100, 4000, 520},
		{1000, 6000, 100, 100, 4000, 600},
		{1000, 6000, 99, 100, 4000, 600}, // own is below free
		{1000, 6000, 0, most, 10000, 600},
		{1000, 6000, 101, 100, 10000, 599},
		{1000, 6000, 101, 100, 9999, 600}, // less than one is lost
		{1000, 6000, 700, 100, 10000, 0},  // all of it
		{1000, 6000, 699, 100, 10000, 1},
		{1000, 6000, 701, 100, 10000, 0}, // more than the rest
		{1000, 6000, most, 0, 10000, 0},
		{1000, 6000, most, 0, 0, 600},
		{999, 5555, 0, 0, 10000, 554}, // 554.9445
		{999, 5555, 1, 0, 9999, 554},
		{3, 5000, 1, 0, 5000, 1}, // both rounded down by themselves
		{3, 5000, 3, 0, 5000, 0},
		{0, 10000, 0, 0, 0, 0},
		{1, 0, 0, 0, 0, 0},
		{most, 10000, 0, 0, 0, most},
		{most, 10000, most, 0, 10000, 0},
		{most, 10000, most, 1, 10000, 1},
		{most, 9999, most, most, 10000, 999900000000},
	} {
		got, ok := impl.SurvivorShare(c.pension, c.rate, c.own, c.free, c.taper)
		isTold(t, fmt.Sprintf("SurvivorShare(%d, %d, %d, %d, %d)", c.pension, c.rate, c.own, c.free, c.taper), got, ok, c.want)
	}
	g := lcg(116)
	for range 5000 {
		size := g.one(30, 100000, impl.MaxCents)
		pension, own, free, rate, taper := g.below(size), g.below(size), g.below(size), g.below(10000), g.below(10000)
		want := slowRound(quotient(pension, rate, 10000), 0)
		if own > free {
			want = max(0, want-slowRound(quotient(own-free, taper, 10000), 0))
		}
		got, ok := impl.SurvivorShare(pension, rate, own, free, taper)
		isTold(t, fmt.Sprintf("SurvivorShare(%d, %d, %d, %d, %d)", pension, rate, own, free, taper), got, ok, want)
	}
}

func TestSplitPoints(t *testing.T) {
	for _, c := range []struct {
		one, two    []int64
		from, to    int64
		first, next []int64
	}{
		{[]int64{9, 9}, []int64{4, 4}, 0, 1, []int64{7, 9}, []int64{6, 4}},
		{[]int64{4, 4}, []int64{9, 9}, 0, 1, []int64{6, 4}, []int64{7, 9}}, // an odd difference, the second being the greater one
		{[]int64{9, 4}, []int64{4, 9}, 0, 2, []int64{7, 6}, []int64{6, 7}},
		{[]int64{9, 9}, []int64{4, 4}, 1, 2, []int64{9, 7}, []int64{4, 6}},
		{[]int64{9, 9}, []int64{4, 4}, 0, 0, []int64{9, 9}, []int64{4, 4}},
		{[]int64{9, 9}, []int64{4, 4}, 1, 1, []int64{9, 9}, []int64{4, 4}},
		{[]int64{9, 9}, []int64{4, 4}, 2, 2, []int64{9, 9}, []int64{4, 4}},
		{[]int64{8, 0, 6}, []int64{4, 8, 6}, 0, 3, []int64{6, 4, 6}, []int64{6, 4, 6}},
		{[]int64{1, 0}, []int64{0, 1}, 0, 2, []int64{1, 0}, []int64{0, 1}},
		{[]int64{0}, []int64{1000000}, 0, 1, []int64{500000}, []int64{500000}},
		{[]int64{1000000}, []int64{1}, 0, 1, []int64{500001}, []int64{500000}},
		{[]int64{5, 5, 5, 5}, []int64{0, 0, 0, 0}, 1, 3, []int64{5, 3, 3, 5}, []int64{0, 2, 2, 0}},
	} {
		first, next, ok := impl.SplitPoints(c.one, c.two, c.from, c.to)
		what := fmt.Sprintf("SplitPoints(%v, %v, %d, %d)", c.one, c.two, c.from, c.to)
		isList(t, "the former of "+what, first, ok, c.first...)
		isList(t, "the latter of "+what, next, ok, c.next...)
	}
	for _, c := range [][2]int64{{1, 0}, {2, 1}, {3, 3}, {0, 3}, {-1, 1}, {-1, -1}} {
		isNone(t, fmt.Sprintf("SplitPoints from %d to %d", c[0], c[1]), results(impl.SplitPoints([]int64{9, 9}, []int64{4, 4}, c[0], c[1])))
	}
	isNone(t, "SplitPoints of different lengths", results(impl.SplitPoints([]int64{9, 9}, []int64{4}, 0, 1)))
	isNone(t, "SplitPoints of different lengths", results(impl.SplitPoints([]int64{9}, []int64{4, 4}, 0, 1)))
	isNone(t, "SplitPoints of nothing", results(impl.SplitPoints(nil, []int64{}, 0, 0)))
}
