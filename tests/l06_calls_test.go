package tests

import (
	"math"
	"slices"
	"testing"

	"loop.example/g01393/impl"
)

// pensionArguments has one argument of each kind that functions of chapter 6 take.
type pensionArguments struct {
	pays, means, points, others     []int64
	most, value, factor             int64
	months, early, late, least      int64
	spans                           []int64
	wait                            int64
	growth                          []int64
	count                           int64
	pension, rate, own, free, taper int64
	from, to                        int64
	start                           int64
	saved, rates                    []int64
	fee                             int64
	flows                           []int64
	flowRate                        float32
	rounds                          int64
	q, second                       []float32
	interest                        float32
	later                           int64
	both                            bool
	fund, draw, drawStart           int64
	starts                          []int64
	workers                         int64
}

type pensionCall = argumentCall[*pensionArguments]

func callsOfChapter6() []pensionCall {
	return slices.Concat(callsOfCareers(), callsOfFunds(), callsOfLives())
}

func callsOfCareers() []pensionCall {
	return []pensionCall{
		{"PointsOf", []string{"pays", "means", "most"}, func(a *pensionArguments) []any { return results(impl.PointsOf(a.pays, a.means, a.most)) }},
		{"PointPension", []string{"points", "value", "factor"}, func(a *pensionArguments) []any {
			return results(impl.PointPension(a.points, a.value, a.factor))
		}},
		{"AgeFactor", []string{"months", "early", "late", "least"}, func(a *pensionArguments) []any {
			return results(impl.AgeFactor(a.months, a.early, a.late, a.least))
		}},
		{"CountMonths", []string{"spans"}, func(a *pensionArguments) []any { return results(impl.CountMonths(a.spans)) }},
		{"GapsOf", []string{"spans"}, func(a *pensionArguments) []any { return results(impl.GapsOf(a.spans)) }},
		{"WaitEnd", []string{"spans", "wait"}, func(a *pensionArguments) []any { return results(impl.WaitEnd(a.spans, a.wait)) }},
		{"IndexPays", []string{"pays", "growth"}, func(a *pensionArguments) []any { return results(impl.IndexPays(a.pays, a.growth)) }},
		{"BestYears", []string{"pays", "count"}, func(a *pensionArguments) []any { return results(impl.BestYears(a.pays, a.count)) }},
		{"BestSpan", []string{"pays", "count"}, func(a *pensionArguments) []any { return results(impl.BestSpan(a.pays, a.count)) }},
		{"SurvivorShare", []string{"pension", "rate", "own", "free", "taper"}, func(a *pensionArguments) []any {
			return results(impl.SurvivorShare(a.pension, a.rate, a.own, a.free, a.taper))
		}},
		{"SplitPoints", []string{"points", "others", "from", "to"}, func(a *pensionArguments) []any {
			return results(impl.SplitPoints(a.points, a.others, a.from, a.to))
		}},
		{"SplitPoints, turned", []string{"points", "others", "from", "to"}, func(a *pensionArguments) []any {
			return results(impl.SplitPoints(a.others, a.points, a.from, a.to))
		}},
	}
}

func callsOfFunds() []pensionCall {
	return []pensionCall{
		{"FundRun", []string{"start", "saved", "rates", "fee"}, func(a *pensionArguments) []any {
			return results(impl.FundRun(a.start, a.saved, a.rates, a.fee))
		}},
		{"TimeReturn", []string{"rates"}, func(a *pensionArguments) []any { return results(impl.TimeReturn(a.rates)) }},
		{"ValueOfFlows", []string{"flows", "flowRate"}, func(a *pensionArguments) []any { return results(impl.ValueOfFlows(a.flows, a.flowRate)) }},
		{"InnerRate", []string{"flows", "rounds"}, func(a *pensionArguments) []any { return results(impl.InnerRate(a.flows, a.rounds)) }},
		{"DrawDown", []string{"start", "rates", "draw"}, func(a *pensionArguments) []any { return results(impl.DrawDown(a.start, a.rates, a.draw)) }},
		{"SafeDraw", []string{"drawStart", "rates"}, func(a *pensionArguments) []any { return results(impl.SafeDraw(a.drawStart, a.rates)) }},
		{"DrawsShared", []string{"starts", "rates", "workers"}, func(a *pensionArguments) []any {
			return results(impl.DrawsShared(a.starts, a.rates, a.workers))
		}},
	}
}

func callsOfLives() []pensionCall {
	return []pensionCall{
		{"IsLifeTable", []string{"q"}, func(a *pensionArguments) []any { return results(impl.IsLifeTable(a.q)) }},
		{"AliveShares", []string{"q"}, func(a *pensionArguments) []any { return results(impl.AliveShares(a.q)) }},
		{"YearsToLive", []string{"q"}, func(a *pensionArguments) []any { return results(impl.YearsToLive(a.q)) }},
		{"AnnuityValue", []string{"q", "interest"}, func(a *pensionArguments) []any { return results(impl.AnnuityValue(a.q, a.interest)) }},
		{"LaterValue", []string{"q", "interest", "later"}, func(a *pensionArguments) []any {
			return results(impl.LaterValue(a.q, a.interest, a.later))
		}},
		{"JointValue", []string{"q", "second", "interest"}, func(a *pensionArguments) []any {
			return results(impl.JointValue(a.q, a.second, a.interest, a.both))
		}},
		{"JointValue, turned", []string{"q", "second", "interest"}, func(a *pensionArguments) []any {
			return results(impl.JointValue(a.second, a.q, a.interest, a.both))
		}},
		{"AnnuityPay", []string{"fund", "q", "interest"}, func(a *pensionArguments) []any {
			return results(impl.AnnuityPay(a.fund, a.q, a.interest))
		}},
		{"ReserveRow", []string{"q", "interest"}, func(a *pensionArguments) []any { return results(impl.ReserveRow(a.q, a.interest)) }},
	}
}

// goodPensions has arguments for which every function of chapter 6 succeeds.
func goodPensions() *pensionArguments {
	return &pensionArguments{
		pays: []int64{30, 90, 50}, means: []int64{40, 40, 50}, points: []int64{9, 9, 8}, others: []int64{4, 4, 11},
		most: 20000, value: 300, factor: 9000,
		months: -12, early: 30, late: 50, least: 8000,
		spans: []int64{20, 30, 0, 10}, wait: 12, growth: []int64{500, 0}, count: 2,
		pension: 1000, rate: 6000, own: 300, free: 100, taper: 4000, from: 1, to: 2,
		start: 100, saved: []int64{0, 50, 10}, rates: []int64{1000, -300, 200}, fee: 100,
		flows: []int64{-100, 20, 100}, flowRate: 0.03, rounds: 24,
		q: []float32{0.5, 0, 0.25, 1}, second: []float32{0.1, 1}, interest: 0.02, later: 2,
		fund: 1000, draw: 20, drawStart: 3000, starts: []int64{100, 30}, workers: 2,
	}
}

// badPays has lists that are no pays: too many, and good ones of which one is no amount.
func badPays(good []int64) [][]int64 {
	all := [][]int64{make([]int64, impl.MaxService+1)}
	for _, n := range []int64{-1, impl.MaxCents + 1, math.MinInt64, math.MaxInt64} {
		for i := range good {
			bad := slices.Clone(good)
			bad[i] = n
			all = append(all, bad)
		}
	}
	return all
}

// badPoints has lists that are no points.
func badPoints() [][]int64 {
	all := [][]int64{make([]int64, impl.MaxService+1)}
	for _, n := range []int64{-1, 1000001, math.MinInt64, math.MaxInt64} {
		all = append(all, []int64{n, 9, 8}, []int64{9, n, 8}, []int64{9, 9, n})
	}
	return all
}

// badFlows has lists that are no flows.
func badFlows() [][]int64 {
	all := [][]int64{{5}, append(make([]int64, impl.MaxService), 1)}
	for _, n := range []int64{-1000000001, 1000000001, math.MinInt64, math.MaxInt64} {
		all = append(all, []int64{n, 1, -1}, []int64{1, n, -1}, []int64{1, -1, n})
	}
	return all
}

// spoiledReal has some numbers for a field.
func spoiledReal(field func(a *pensionArguments) *float32, numbers ...float32) []func(*pensionArguments) {
	var all []func(*pensionArguments)
	for _, x := range numbers {
		all = append(all, func(a *pensionArguments) { *field(a) = x })
	}
	return all
}

// spoiledPensions has for each argument changes by which it is not as it must be.
func spoiledPensions() map[string][]func(*pensionArguments) {
	good := goodPensions()
	means := append(badPays(good.means), []int64{0, 40, 50}, []int64{40, 40, 0}, []int64{40, 40}, []int64{40, 40, 50, 50})
	growth := [][]int64{nil, {}, {500}, {500, 0, 0}, {-1, 0}, {0, -1}, {10001, 0}, {0, 10001}, {math.MaxInt64, 0}, {0, math.MinInt64}}
	saved := append(badPays(good.saved), []int64{0, 50}, []int64{0, 50, 10, 10})
	starts := [][]int64{make([]int64, 17), {-1}, {1000000001}, {100, -1}, {100, 1000000001}, {math.MaxInt64, 0}, {0, math.MinInt64}}
	justOutside := []float32{number(0xbf000001), number(0x3f800001), -1, 2, number(bitsMost), number(bitsInf), number(bitsNegInf), number(bitsNaN), number(bitsNegNaN)}
	all := map[string][]func(*pensionArguments){
		"pays":     spoiledNone(func(a *pensionArguments) *[]int64 { return &a.pays }, badPays(good.pays)...),
		"means":    spoiledNone(func(a *pensionArguments) *[]int64 { return &a.means }, means...),
		"points":   spoiledNone(func(a *pensionArguments) *[]int64 { return &a.points }, badPoints()...),
		"others":   spoiledNone(func(a *pensionArguments) *[]int64 { return &a.others }, append(badPoints(), []int64{4, 4}, []int64{4, 4, 11, 0})...),
		"spans":    spoiledNone(func(a *pensionArguments) *[]int64 { return &a.spans }, badSpans()...),
		"growth":   spoiledList(func(a *pensionArguments) *[]int64 { return &a.growth }, growth...),
		"saved":    spoiledNone(func(a *pensionArguments) *[]int64 { return &a.saved }, saved...),
		"rates":    spoiledNone(func(a *pensionArguments) *[]int64 { return &a.rates }, badFundRates()...),
		"flows":    spoiledNone(func(a *pensionArguments) *[]int64 { return &a.flows }, badFlows()...),
		"starts":   spoiledNone(func(a *pensionArguments) *[]int64 { return &a.starts }, starts...),
		"q":        spoiledNone(func(a *pensionArguments) *[]float32 { return &a.q }, badLives()...),
		"second":   spoiledNone(func(a *pensionArguments) *[]float32 { return &a.second }, badLives()...),
		"flowRate": spoiledReal(func(a *pensionArguments) *float32 { return &a.flowRate }, justOutside...),
		"interest": spoiledReal(func(a *pensionArguments) *float32 { return &a.interest }, badChances()...),
	}
	spoilPensionNumbers(all)
	return all
}

func spoilPensionNumbers(all map[string][]func(*pensionArguments)) {
	const cents = impl.MaxCents
	all["most"] = spoiledInt(func(a *pensionArguments) *int64 { return &a.most }, 0, 1000000)
	all["value"] = spoiledInt(func(a *pensionArguments) *int64 { return &a.value }, 0, 100000)
	all["factor"] = spoiledInt(func(a *pensionArguments) *int64 { return &a.factor }, 0, 30000)
	all["months"] = spoiledInt(func(a *pensionArguments) *int64 { return &a.months }, -600, 600)
	all["early"] = spoiledInt(func(a *pensionArguments) *int64 { return &a.early }, 0, 200)
	all["late"] = spoiledInt(func(a *pensionArguments) *int64 { return &a.late }, 0, 200)
	all["least"] = spoiledInt(func(a *pensionArguments) *int64 { return &a.least }, 0, 10000)
	all["wait"] = spoiledInt(func(a *pensionArguments) *int64 { return &a.wait }, 0, 20)
	all["count"] = spoiledInt(func(a *pensionArguments) *int64 { return &a.count }, 1, 3)
	all["pension"] = spoiledInt(func(a *pensionArguments) *int64 { return &a.pension }, 0, cents)
	all["rate"] = spoiledInt(func(a *pensionArguments) *int64 { return &a.rate }, 0, 10000)
	all["own"] = spoiledInt(func(a *pensionArguments) *int64 { return &a.own }, 0, cents)
	all["free"] = spoiledInt(func(a *pensionArguments) *int64 { return &a.free }, 0, cents)
	all["taper"] = spoiledInt(func(a *pensionArguments) *int64 { return &a.taper }, 0, 10000)
	all["from"] = spoiledInt(func(a *pensionArguments) *int64 { return &a.from }, 0, 2)
	all["to"] = spoiledInt(func(a *pensionArguments) *int64 { return &a.to }, 1, 3)
	all["start"] = spoiledInt(func(a *pensionArguments) *int64 { return &a.start }, 0, cents)
	all["fee"] = spoiledInt(func(a *pensionArguments) *int64 { return &a.fee }, 0, 10000)
	all["rounds"] = spoiledInt(func(a *pensionArguments) *int64 { return &a.rounds }, 1, 32)
	all["later"] = spoiledInt(func(a *pensionArguments) *int64 { return &a.later }, 0, 4)
	all["fund"] = spoiledInt(func(a *pensionArguments) *int64 { return &a.fund }, 0, 1000000)
	all["draw"] = spoiledInt(func(a *pensionArguments) *int64 { return &a.draw }, 0, cents)
	all["drawStart"] = spoiledInt(func(a *pensionArguments) *int64 { return &a.drawStart }, 0, 1000000000)
	all["workers"] = spoiledInt(func(a *pensionArguments) *int64 { return &a.workers }, 1, impl.MaxWorkers)
}

// Every function fails for each argument that is not as its section requires,
// with zero values, and succeeds for good ones.
func TestChapter6InvalidArguments(t *testing.T) {
	spoilAll(t, callsOfChapter6(), spoiledPensions(), goodPensions)
	// What is spoiled matters in the other ways to go, too.
	spoilAll(t, callsOfChapter6(), spoiledPensions(), func() *pensionArguments {
		a := goodPensions()
		a.months, a.own, a.both, a.draw = 12, 0, true, 100000
		return a
	})
	spoilAll(t, callsOfChapter6(), spoiledPensions(), func() *pensionArguments {
		a := goodPensions()
		a.most, a.months, a.fee, a.draw, a.fund = 0, 0, 10000, 0, 0
		a.points, a.others = []int64{1, 1, 1}, []int64{1, 1, 1}
		return a
	})
}

// Limits can be reached exactly: every function succeeds at them.
func TestChapter6OutmostArguments(t *testing.T) {
	const most = impl.MaxCents
	all := func(n int64) []int64 { return slices.Repeat([]int64{n}, impl.MaxService) }
	allSucceed(t, callsOfChapter6(), []func(*pensionArguments){
		func(a *pensionArguments) { a.pays, a.means, a.growth, a.count = []int64{0}, []int64{1}, nil, 1 },
		func(a *pensionArguments) {
			a.pays, a.means, a.growth, a.count = all(most), all(most), all(0)[1:], 1
		},
		func(a *pensionArguments) {
			a.pays, a.means, a.growth, a.count = all(0), all(1), all(10000)[1:], impl.MaxService
		},
		func(a *pensionArguments) { a.pays, a.most = []int64{most, 0, 0}, 0; a.growth = []int64{0, 0} },
		func(a *pensionArguments) { a.pays, a.most, a.count = []int64{0, 0, most}, 1000000, 3 },
		func(a *pensionArguments) { a.points, a.others, a.from, a.to = []int64{0}, []int64{1000000}, 0, 0 },
		func(a *pensionArguments) { a.points, a.others, a.from, a.to = []int64{0}, []int64{1000000}, 1, 1 },
		func(a *pensionArguments) {
			a.points, a.others, a.from, a.to = all(1000000), all(0), 0, impl.MaxService
		},
		func(a *pensionArguments) { a.value, a.factor, a.least, a.early, a.late = 0, 0, 0, 0, 0 },
		func(a *pensionArguments) {
			a.value, a.factor, a.least, a.early, a.late = 100000, 30000, 10000, 200, 200
		},
		func(a *pensionArguments) { a.months = -600 },
		func(a *pensionArguments) { a.months = 600 },
		func(a *pensionArguments) { a.spans, a.wait = []int64{0, impl.MaxMonths}, impl.MaxMonths },
		func(a *pensionArguments) { a.spans, a.wait = []int64{impl.MaxMonths - 1, impl.MaxMonths}, 0 },
		func(a *pensionArguments) { a.spans, a.wait = slices.Repeat([]int64{3, 4}, impl.MaxCareer), 1 },
		func(a *pensionArguments) { a.pension, a.rate, a.own, a.free, a.taper = 0, 0, 0, 0, 0 },
		func(a *pensionArguments) {
			a.pension, a.rate, a.own, a.free, a.taper = most, 10000, most, most, 10000
		},
		func(a *pensionArguments) { a.start, a.saved, a.rates, a.fee = most, []int64{0}, []int64{0}, 0 },
		func(a *pensionArguments) {
			a.start, a.saved, a.rates, a.draw = most, []int64{most}, []int64{-9999}, most
		},
		func(a *pensionArguments) { a.start, a.saved, a.rates, a.fee = 0, all(0), all(10000), 10000 },
		func(a *pensionArguments) { a.start, a.saved, a.rates, a.draw = 0, all(most), all(-9999), 0 },
		func(a *pensionArguments) { a.flows, a.flowRate, a.rounds = []int64{-1000000000, 1000000000}, -0.5, 1 },
		func(a *pensionArguments) {
			a.flows, a.flowRate, a.rounds = append(all(1000000000)[1:], -1000000000), 1, 32
		},
		func(a *pensionArguments) { a.q, a.second, a.interest, a.later = []float32{1}, []float32{1}, 0, 0 },
		func(a *pensionArguments) {
			a.q, a.second = append(make([]float32, impl.MaxLife-1), 1), slices.Repeat([]float32{1}, impl.MaxLife)
			a.interest, a.later = 1, impl.MaxLife
		},
		func(a *pensionArguments) { a.q, a.interest = []float32{minusZero(), 1}, minusZero() },
		func(a *pensionArguments) { a.fund, a.drawStart, a.workers = 0, 0, 1 },
		func(a *pensionArguments) { a.fund, a.drawStart, a.workers = 1000000, 1000000000, impl.MaxWorkers },
		func(a *pensionArguments) { a.starts = []int64{0} },
		func(a *pensionArguments) { a.starts = slices.Repeat([]int64{1000000000}, 16) },
	}, goodPensions)
}

func TestChapter6Limits(t *testing.T) {
	isInt(t, "MaxService", impl.MaxService, 60)
	isInt(t, "MaxLife", impl.MaxLife, 120)
	isInt(t, "MaxCareer", impl.MaxCareer, 24)
	isInt(t, "MaxMonths", impl.MaxMonths, 1500)
}
