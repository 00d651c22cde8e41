package tests

import (
	"math"
	"slices"
	"testing"

	"loop.example/g01393/impl"
)

// chainArguments has one argument of each kind that functions of chapter 4 take.
type chainArguments struct {
	sales, values            []int64
	rate, round, price       int64
	lines, kinds, rates      []int64
	dues                     []int64
	above, below             int64
	total, units             int64
	weights                  []int64
	odd                      bool
	lists                    [][]int64
	mixes                    []int64
	tariff                   impl.Tariff
	value, pieces            int64
	tariffs                  []impl.Tariff
	own, all                 int64
	due, away, whole, paid   int64
	s                        impl.Scale
	home, abroad, one, two   int64
	cents, parts, most       int64
	first, more, children    int64
	full, start, step, count int64
	nets                     []int64
	totals                   []int64
	workers                  int64
}

type chainCall = argumentCall[*chainArguments]

func callsOfChapter4() []chainCall {
	return slices.Concat(callsOfChains(), callsOfShares(), callsOfTreaties())
}

func callsOfChains() []chainCall {
	takesLines := []string{"lines", "kinds", "rates", "round"}
	return []chainCall{
		{"ChainDues", []string{"sales", "rate", "round"}, func(a *chainArguments) []any { return results(impl.ChainDues(a.sales, a.rate, a.round)) }},
		{"CascadePrices", []string{"values", "rate", "round"}, func(a *chainArguments) []any { return results(impl.CascadePrices(a.values, a.rate, a.round)) }},
		{"NetOfPrice", []string{"price", "rate", "round"}, func(a *chainArguments) []any { return results(impl.NetOfPrice(a.price, a.rate, a.round)) }},
		{"LineDues", takesLines, func(a *chainArguments) []any { return results(impl.LineDues(a.lines, a.kinds, a.rates, a.round)) }},
		{"RateDues", takesLines, func(a *chainArguments) []any { return results(impl.RateDues(a.lines, a.kinds, a.rates, a.round)) }},
		{"SpreadDues", takesLines, func(a *chainArguments) []any { return results(impl.SpreadDues(a.lines, a.kinds, a.rates, a.round)) }},
		{"RefundShare", []string{"dues", "above", "below"}, func(a *chainArguments) []any { return results(impl.RefundShare(a.dues, a.above, a.below)) }},
		{"NetCurve", []string{"s", "full", "start", "rate", "step", "count", "round"}, func(a *chainArguments) []any {
			return results(impl.NetCurve(a.s, a.full, a.start, a.rate, a.step, a.count, a.round))
		}},
		{"LossRates", []string{"nets", "step"}, func(a *chainArguments) []any { return results(impl.LossRates(a.nets, a.step)) }},
		{"WorstTrap", []string{"nets"}, func(a *chainArguments) []any { return results(impl.WorstTrap(a.nets)) }},
	}
}

func callsOfShares() []chainCall {
	return []chainCall{
		{"LargestRests", []string{"total", "weights"}, func(a *chainArguments) []any { return results(impl.LargestRests(a.total, a.weights)) }},
		{"DivisorShares", []string{"units", "weights"}, func(a *chainArguments) []any { return results(impl.DivisorShares(a.units, a.weights, a.odd)) }},
		{"FactorWeights", []string{"lists", "mixes"}, func(a *chainArguments) []any { return results(impl.FactorWeights(a.lists, a.mixes)) }},
		{"SharesShared", []string{"totals", "weights", "workers"}, func(a *chainArguments) []any {
			return results(impl.SharesShared(a.totals, a.weights, a.workers))
		}},
	}
}

func callsOfTreaties() []chainCall {
	return []chainCall{
		{"ValidTariff", []string{"tariff"}, func(a *chainArguments) []any { return results(impl.ValidTariff(a.tariff)) }},
		{"CustomsDue", []string{"tariff", "value", "pieces", "round"}, func(a *chainArguments) []any {
			return results(impl.CustomsDue(a.tariff, a.value, a.pieces, a.round))
		}},
		{"BestTariff", []string{"tariffs", "value", "pieces", "round"}, func(a *chainArguments) []any {
			return results(impl.BestTariff(a.tariffs, a.value, a.pieces, a.round))
		}},
		{"IsOrigin", []string{"own", "all", "rate"}, func(a *chainArguments) []any { return results(impl.IsOrigin(a.own, a.all, a.rate)) }},
		{"CreditLimit", []string{"due", "away", "whole", "paid"}, func(a *chainArguments) []any {
			return results(impl.CreditLimit(a.due, a.away, a.whole, a.paid))
		}},
		{"ExemptDue", []string{"s", "home", "abroad", "round"}, func(a *chainArguments) []any { return results(impl.ExemptDue(a.s, a.home, a.abroad, a.round)) }},
		{"SplitDue", []string{"s", "one", "two", "round"}, func(a *chainArguments) []any { return results(impl.SplitDue(a.s, a.one, a.two, a.round)) }},
		{"PartsDue", []string{"s", "cents", "parts", "most", "round"}, func(a *chainArguments) []any {
			return results(impl.PartsDue(a.s, a.cents, a.parts, a.most, a.round))
		}},
		{"ChildBenefit", []string{"first", "more", "children", "start", "rate", "cents"}, func(a *chainArguments) []any {
			return results(impl.ChildBenefit(a.first, a.more, a.children, a.start, a.rate, a.cents))
		}},
	}
}

// goodChains has arguments for which every function of chapter 4 succeeds.
func goodChains() *chainArguments {
	return &chainArguments{
		sales: []int64{100, 250, 40}, values: []int64{100, 0, 55}, rate: 1900, round: 1, price: 119,
		lines: []int64{33, 7, 45}, kinds: []int64{1, 0, 1}, rates: []int64{700, 1900},
		dues: []int64{10, 5}, above: 1, below: 2,
		total: 100, units: 10, weights: []int64{3, 0, 4},
		lists: [][]int64{{1, 1}, {1, 3}}, mixes: []int64{1, 2},
		tariff: tariffOf(1000, 2, 15), value: 100, pieces: 5, tariffs: []impl.Tariff{tariffOf(1000, 2, 15), tariffOf(500, 0, 0)},
		own: 40, all: 100, due: 100, away: 30, whole: 120, paid: 40,
		s: scaleWith(0, 1000, 1000, 2000), home: 500, abroad: 1000, one: 1500, two: 501,
		cents: 1500, parts: 3, most: 20, first: 50, more: 30, children: 3,
		full: 100, start: 1000, step: 500, count: 3,
		nets: []int64{5, 9, 7, 8, 10}, totals: []int64{100, 4}, workers: 2,
	}
}

// spoiledChains has for each argument changes by which it is not as it must be.
func spoiledChains() map[string][]func(*chainArguments) {
	all := spoiledChainInts()
	long := func(count int) []int64 { return make([]int64, count) }
	const most = impl.MaxCents
	sales := func(a *chainArguments) *[]int64 { return &a.sales }
	values := func(a *chainArguments) *[]int64 { return &a.values }
	dues := func(a *chainArguments) *[]int64 { return &a.dues }
	nets := func(a *chainArguments) *[]int64 { return &a.nets }
	totals := func(a *chainArguments) *[]int64 { return &a.totals }
	weights := func(a *chainArguments) *[]int64 { return &a.weights }
	stages := [][]int64{long(impl.MaxStages + 1), {-1}, {5, -1}, {most + 1}, {0, most + 1}, {math.MinInt64}, {5, math.MaxInt64}}
	all["sales"] = spoiledNone(sales, stages...)
	all["values"] = spoiledNone(values, stages...)
	all["dues"] = spoiledNone(dues, long(impl.MaxLines+1), []int64{-1}, []int64{5, -1}, []int64{most + 1}, []int64{0, most + 1}, []int64{math.MinInt64}, []int64{math.MaxInt64, 3})
	all["nets"] = spoiledNone(nets, long(66), []int64{5}, []int64{5, -1}, []int64{-1, -2}, []int64{most + 1, 3}, []int64{math.MaxInt64, math.MinInt64}, []int64{1, 0, math.MinInt64})
	all["totals"] = spoiledNone(totals, long(17), []int64{-1}, []int64{1000000001}, []int64{0, 5, -1}, []int64{0, 1000000001}, []int64{math.MinInt64}, []int64{4, math.MaxInt64})
	all["weights"] = spoiledNone(weights, slices.Repeat([]int64{1}, impl.MaxPlaces+1), []int64{0}, long(impl.MaxPlaces), []int64{-1, 2}, []int64{1, -1, 1},
		[]int64{1000000001}, []int64{5, 1000000001}, []int64{math.MaxInt64, math.MaxInt64, 3}, []int64{5, math.MinInt64})
	for _, bad := range badScales() {
		all["s"] = append(all["s"], func(a *chainArguments) { a.s = bad })
	}
	spoilLines(all)
	spoilFactors(all)
	spoilTariffs(all)
	return all
}

func spoilLines(all map[string][]func(*chainArguments)) {
	const most = impl.MaxCents
	lines := func(a *chainArguments) *[]int64 { return &a.lines }
	kinds := func(a *chainArguments) *[]int64 { return &a.kinds }
	rates := func(a *chainArguments) *[]int64 { return &a.rates }
	all["lines"] = spoiledNone(lines, []int64{3, 3}, []int64{3, 3, 3, 3}, []int64{-1, 3, 3}, []int64{3, 3, -1}, []int64{3, most + 1, 3},
		[]int64{most, 0, 1}, []int64{math.MinInt64, 0, 0}, []int64{math.MaxInt64, math.MaxInt64, 2})
	all["lines"] = append(all["lines"], func(a *chainArguments) {
		a.lines, a.kinds = make([]int64, impl.MaxLines+1), make([]int64, impl.MaxLines+1)
	}, func(a *chainArguments) { a.lines, a.kinds = nil, nil })
	all["kinds"] = spoiledNone(kinds, []int64{0, 0}, []int64{0, 0, 0, 0}, []int64{-1, 0, 0}, []int64{0, 0, 2}, []int64{0, math.MinInt64, 0}, []int64{math.MaxInt64, 0, 0})
	all["rates"] = spoiledNone(rates, []int64{700}, []int64{-1, 1900}, []int64{700, 1900, -1}, []int64{700, 10001}, []int64{10001, 700},
		[]int64{700, math.MinInt64}, []int64{math.MaxInt64, 700}, make([]int64, impl.MaxStages+1))
}

func spoilFactors(all map[string][]func(*chainArguments)) {
	lists := func(a *chainArguments) *[][]int64 { return &a.lists }
	mixes := func(a *chainArguments) *[]int64 { return &a.mixes }
	fine := []int64{1, 1}
	all["lists"] = spoiledNone(lists, [][]int64{fine}, [][]int64{fine, fine, fine}, [][]int64{fine, nil}, [][]int64{nil, fine}, [][]int64{nil, nil}, [][]int64{{}, {}},
		[][]int64{fine, {1}}, [][]int64{fine, {1, 1, 1}}, [][]int64{{1}, fine}, [][]int64{fine, {0, 0}}, [][]int64{{0, 0}, fine}, [][]int64{fine, {-1, 2}}, [][]int64{fine, {1000, -999}},
		[][]int64{fine, {1000, 1}}, [][]int64{{500, 501}, fine}, [][]int64{fine, {0, 1001}}, [][]int64{fine, {math.MaxInt64, 3}}, [][]int64{{math.MinInt64, 5}, fine},
		slices.Repeat([][]int64{slices.Repeat([]int64{1}, impl.MaxPlaces+1)}, 2))
	all["lists"] = append(all["lists"], func(a *chainArguments) {
		a.lists, a.mixes = slices.Repeat([][]int64{fine}, 5), slices.Repeat([]int64{1}, 5)
	}, func(a *chainArguments) { a.lists, a.mixes = nil, nil })
	all["mixes"] = spoiledNone(mixes, []int64{1}, []int64{1, 1, 1}, []int64{0, 0}, []int64{-1, 2}, []int64{5, -1}, []int64{10, 1}, []int64{1, 10},
		[]int64{math.MinInt64, 1}, []int64{1, math.MaxInt64}, []int64{math.MaxInt64, math.MaxInt64})
}

func spoilTariffs(all map[string][]func(*chainArguments)) {
	fine := tariffOf(500, 0, 0)
	tariffs := func(a *chainArguments) *[]impl.Tariff { return &a.tariffs }
	all["tariffs"] = spoiledNone(tariffs, slices.Repeat([]impl.Tariff{fine}, impl.MaxPlaces+1))
	for _, bad := range badTariffs() {
		all["tariff"] = append(all["tariff"], func(a *chainArguments) { a.tariff = bad })
		all["tariffs"] = append(all["tariffs"], spoiledList(tariffs, []impl.Tariff{bad}, []impl.Tariff{fine, bad}, []impl.Tariff{bad, fine})...)
	}
}

func spoiledChainInts() map[string][]func(*chainArguments) {
	const most = impl.MaxCents
	return map[string][]func(*chainArguments){
		"rate":     spoiledInt(func(a *chainArguments) *int64 { return &a.rate }, 0, 10000),
		"round":    spoiledInt(func(a *chainArguments) *int64 { return &a.round }, 0, 3),
		"price":    spoiledInt(func(a *chainArguments) *int64 { return &a.price }, 0, most),
		"above":    spoiledInt(func(a *chainArguments) *int64 { return &a.above }, 0, 2),
		"below":    spoiledInt(func(a *chainArguments) *int64 { return &a.below }, 1, 10000),
		"total":    spoiledInt(func(a *chainArguments) *int64 { return &a.total }, 0, 1000000000),
		"units":    spoiledInt(func(a *chainArguments) *int64 { return &a.units }, 0, 1000),
		"value":    spoiledInt(func(a *chainArguments) *int64 { return &a.value }, 0, most),
		"pieces":   spoiledInt(func(a *chainArguments) *int64 { return &a.pieces }, 0, 100000),
		"own":      spoiledInt(func(a *chainArguments) *int64 { return &a.own }, 0, 100),
		"all":      spoiledInt(func(a *chainArguments) *int64 { return &a.all }, 40, most),
		"due":      spoiledInt(func(a *chainArguments) *int64 { return &a.due }, 0, 1000000),
		"away":     spoiledInt(func(a *chainArguments) *int64 { return &a.away }, 0, 120),
		"whole":    spoiledInt(func(a *chainArguments) *int64 { return &a.whole }, 30, 1000000000),
		"paid":     spoiledInt(func(a *chainArguments) *int64 { return &a.paid }, 0, most),
		"home":     spoiledInt(func(a *chainArguments) *int64 { return &a.home }, 0, 99000),
		"abroad":   spoiledInt(func(a *chainArguments) *int64 { return &a.abroad }, 0, 99500),
		"one":      spoiledInt(func(a *chainArguments) *int64 { return &a.one }, 0, most),
		"two":      spoiledInt(func(a *chainArguments) *int64 { return &a.two }, 0, most),
		"cents":    spoiledInt(func(a *chainArguments) *int64 { return &a.cents }, 0, most),
		"parts":    spoiledInt(func(a *chainArguments) *int64 { return &a.parts }, 2, 16),
		"most":     spoiledInt(func(a *chainArguments) *int64 { return &a.most }, 0, most),
		"first":    spoiledInt(func(a *chainArguments) *int64 { return &a.first }, 0, most),
		"more":     spoiledInt(func(a *chainArguments) *int64 { return &a.more }, 0, most),
		"children": spoiledInt(func(a *chainArguments) *int64 { return &a.children }, 0, 20),
		"full":     spoiledInt(func(a *chainArguments) *int64 { return &a.full }, 0, most),
		"start":    spoiledInt(func(a *chainArguments) *int64 { return &a.start }, 0, most),
		"step":     spoiledInt(func(a *chainArguments) *int64 { return &a.step }, 1, 1000000),
		"count":    spoiledInt(func(a *chainArguments) *int64 { return &a.count }, 1, 64),
		"workers":  spoiledInt(func(a *chainArguments) *int64 { return &a.workers }, 1, impl.MaxWorkers),
	}
}

// Every function fails for each argument that is not as its section requires,
// with zero values, and succeeds for good ones.
func TestChapter4InvalidArguments(t *testing.T) {
	spoilAll(t, callsOfChapter4(), spoiledChains(), goodChains)
	// Arguments that change nothing must be as told, too.
	spoilAll(t, callsOfChapter4(), spoiledChains(), func() *chainArguments {
		a := goodChains()
		a.value, a.pieces, a.children, a.odd = 0, 0, 0, true
		a.lines, a.rates, a.dues, a.mixes = []int64{0, 0, 0}, []int64{0, 0}, []int64{0}, []int64{0, 1}
		return a
	})
	// No child, and one, do not mind how much more there is for others.
	for children := range int64(2) {
		a := goodChains()
		a.more = -1
		isNone(t, "ChildBenefit with less for more", results(impl.ChildBenefit(a.first, a.more, children, a.start, a.rate, a.cents)))
	}
}

// Limits can be reached exactly: every function succeeds at them.
func TestChapter4OutmostArguments(t *testing.T) {
	const most = impl.MaxCents
	const weight = 1000000000
	repeat := func(n int64, count int) []int64 { return slices.Repeat([]int64{n}, count) }
	allSucceed(t, callsOfChapter4(), []func(*chainArguments){
		func(a *chainArguments) { a.sales, a.values, a.price, a.rate = []int64{0}, []int64{0}, 0, 0 },
		func(a *chainArguments) {
			a.sales, a.values, a.price = repeat(most, impl.MaxStages), append(make([]int64, impl.MaxStages-1), most/2), most
			a.rate, a.own = 10000, 100
		},
		func(a *chainArguments) { a.lines, a.kinds, a.rates = []int64{most}, []int64{0}, []int64{10000} },
		func(a *chainArguments) {
			a.lines, a.kinds, a.rates = repeat(most/impl.MaxLines, impl.MaxLines), repeat(impl.MaxStages-1, impl.MaxLines), repeat(0, impl.MaxStages)
		},
		func(a *chainArguments) { a.dues, a.above, a.below = []int64{most}, 1, 1 },
		func(a *chainArguments) { a.dues, a.above, a.below = repeat(0, impl.MaxLines), 10000, 10000 },
		func(a *chainArguments) { a.dues, a.above, a.below = repeat(most, impl.MaxLines), 0, 1 },
		func(a *chainArguments) { a.total, a.units, a.weights, a.totals = 0, 0, []int64{1}, []int64{0} },
		func(a *chainArguments) {
			a.total, a.units, a.weights, a.totals = weight, 1000, repeat(weight, impl.MaxPlaces), repeat(weight, 16)
		},
		func(a *chainArguments) { a.lists, a.mixes = [][]int64{{1000}}, []int64{9} },
		func(a *chainArguments) {
			a.lists, a.mixes = slices.Repeat([][]int64{append(make([]int64, impl.MaxPlaces-1), 1000)}, 4), repeat(9, 4)
		},
		func(a *chainArguments) { a.tariff, a.tariffs = tariffOf(0, 0, 0), []impl.Tariff{tariffOf(0, 0, 0)} },
		func(a *chainArguments) {
			a.tariff = tariffOf(9000, 1000000, 1000000)
			a.tariffs = slices.Repeat([]impl.Tariff{a.tariff}, impl.MaxPlaces)
			a.value, a.pieces = most, 100000
		},
		func(a *chainArguments) { a.value, a.pieces, a.round = 0, 0, 0 },
		func(a *chainArguments) { a.own, a.all, a.due, a.away, a.whole, a.paid = 0, 0, 0, 0, 1, 0 },
		func(a *chainArguments) {
			a.own, a.all, a.due, a.away, a.whole, a.paid = most, most, 1000000, weight, weight, most
		},
		func(a *chainArguments) { a.home, a.abroad, a.one, a.two, a.cents, a.parts = 0, 0, 0, 0, 0, 2 },
		func(a *chainArguments) {
			a.home, a.abroad, a.one, a.two, a.cents, a.parts = 100000, 0, most, most, most, 16
		},
		func(a *chainArguments) { a.home, a.abroad, a.most, a.start, a.full = 0, 100000, most, most, 0 },
		func(a *chainArguments) { a.most, a.start, a.full, a.step, a.count = 0, 0, most-64000000, 1000000, 64 },
		func(a *chainArguments) { a.first, a.more, a.children, a.step, a.count = most, most, 0, 1, 1 },
		func(a *chainArguments) { a.first, a.more, a.children = 0, most/19, 20 },
		func(a *chainArguments) { a.nets, a.workers, a.round = []int64{most, 0}, 1, 3 },
		func(a *chainArguments) { a.nets, a.workers = repeat(most, 65), impl.MaxWorkers },
	}, goodChains)
}

func TestChapter4Limits(t *testing.T) {
	isInt(t, "MaxStages", impl.MaxStages, 16)
	isInt(t, "MaxLines", impl.MaxLines, 32)
	isInt(t, "MaxPlaces", impl.MaxPlaces, 12)
}
