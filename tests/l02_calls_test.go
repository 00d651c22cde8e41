package tests

import (
	"math"
	"slices"
	"testing"

	"loop.example/g01393/impl"
)

// scaleArguments has one argument of each kind that functions of chapter 2 take.
type scaleArguments struct {
	s, other                         impl.Scale
	cents, net, due, credit          int64
	full, start, limit, free         int64
	rate, last, round                int64
	quotAbove, quotBelow             int64
	mix, above, below, index, step   int64
	workers                          int64
	pays, amounts, breaks, duesThere []int64
	back                             bool
}

type scaleCall = argumentCall[*scaleArguments]

func callsOfChapter2() []scaleCall {
	return []scaleCall{
		{"ValidScale", []string{"s"}, func(a *scaleArguments) []any { return results(impl.ValidScale(a.s)) }},
		{"RoundOf", []string{"quotAbove", "quotBelow", "round"}, func(a *scaleArguments) []any { return results(impl.RoundOf(a.quotAbove, a.quotBelow, a.round)) }},
		{"DueOf", []string{"s", "cents", "round"}, func(a *scaleArguments) []any { return results(impl.DueOf(a.s, a.cents, a.round)) }},
		{"NetOf", []string{"s", "cents", "round"}, func(a *scaleArguments) []any { return results(impl.NetOf(a.s, a.cents, a.round)) }},
		{"RateAt", []string{"s", "cents"}, func(a *scaleArguments) []any { return results(impl.RateAt(a.s, a.cents)) }},
		{"MeanRate", []string{"s", "cents"}, func(a *scaleArguments) []any { return results(impl.MeanRate(a.s, a.cents)) }},
		{"GrossOf", []string{"s", "net", "round"}, func(a *scaleArguments) []any { return results(impl.GrossOf(a.s, a.net, a.round)) }},
		{"JoinScales", []string{"s", "other"}, func(a *scaleArguments) []any { return results(impl.JoinScales(a.s, a.other)) }},
		{"JoinScales, turned", []string{"s", "other"}, func(a *scaleArguments) []any { return results(impl.JoinScales(a.other, a.s)) }},
		{"MixScale", []string{"s", "mix"}, func(a *scaleArguments) []any { return results(impl.MixScale(a.s, a.mix)) }},
		{"StretchScale", []string{"s", "above", "below"}, func(a *scaleArguments) []any { return results(impl.StretchScale(a.s, a.above, a.below)) }},
		{"IndexScale", []string{"s", "index", "step"}, func(a *scaleArguments) []any { return results(impl.IndexScale(a.s, a.index, a.step)) }},
		{"TrimScale", []string{"s"}, func(a *scaleArguments) []any { return results(impl.TrimScale(a.s)) }},
		{"ScaleOf", []string{"breaks", "duesThere", "last"}, func(a *scaleArguments) []any { return results(impl.ScaleOf(a.breaks, a.duesThere, a.last)) }},
		{"CreditOf", []string{"due", "credit"}, func(a *scaleArguments) []any { return results(impl.CreditOf(a.due, a.credit, a.back)) }},
		{"TaperOf", []string{"full", "start", "rate", "cents"}, func(a *scaleArguments) []any { return results(impl.TaperOf(a.full, a.start, a.rate, a.cents)) }},
		{"TaperEnd", []string{"full", "start", "rate"}, func(a *scaleArguments) []any { return results(impl.TaperEnd(a.full, a.start, a.rate)) }},
		{"NetWithTaper", []string{"s", "full", "start", "rate", "cents", "round"}, func(a *scaleArguments) []any {
			return results(impl.NetWithTaper(a.s, a.full, a.start, a.rate, a.cents, a.round))
		}},
		{"RateWithTaper", []string{"s", "full", "start", "rate", "cents"}, func(a *scaleArguments) []any {
			return results(impl.RateWithTaper(a.s, a.full, a.start, a.rate, a.cents))
		}},
		{"CliffEnd", []string{"s", "full", "limit", "round"}, func(a *scaleArguments) []any { return results(impl.CliffEnd(a.s, a.full, a.limit, a.round)) }},
		{"LeastDue", []string{"s", "rate", "free", "cents", "round"}, func(a *scaleArguments) []any {
			return results(impl.LeastDue(a.s, a.rate, a.free, a.cents, a.round))
		}},
		{"WithholdSums", []string{"s", "pays", "round"}, func(a *scaleArguments) []any { return results(impl.WithholdSums(a.s, a.pays, a.round)) }},
		{"WithholdYears", []string{"s", "pays", "round"}, func(a *scaleArguments) []any { return results(impl.WithholdYears(a.s, a.pays, a.round)) }},
		{"RateCurve", []string{"s", "amounts"}, func(a *scaleArguments) []any { return results(impl.RateCurve(a.s, a.amounts)) }},
		{"DuesShared", []string{"s", "amounts", "round", "workers"}, func(a *scaleArguments) []any {
			return results(impl.DuesShared(a.s, a.amounts, a.round, a.workers))
		}},
	}
}

// goodArguments has arguments for which every function of chapter 2 succeeds.
func goodArguments() *scaleArguments {
	return &scaleArguments{
		s:     scaleWith(0, 1000, 1000, 2000),
		other: scaleWith(0, 0, 500, 100),
		cents: 1500, net: 1300, due: 200, credit: 50,
		full: 100, start: 1000, limit: 1000, free: 700,
		rate: 5000, last: 2000, round: 1,
		quotAbove: 7, quotBelow: 2,
		mix: 5000, above: 3, below: 2, index: 1260, step: 100,
		workers: 2,
		pays:    []int64{400, 800}, amounts: []int64{1000, 1500, 90},
		breaks: []int64{0, 1000}, duesThere: []int64{0, 100},
	}
}

// badScales has scales that are not valid, each for one reason.
func badScales() []impl.Scale {
	nine := []int64{0, 1, 2, 3, 4, 5, 6, 7, 8}
	return []impl.Scale{
		{},
		{Breaks: []int64{}, Rates: []int64{}},
		{Breaks: []int64{0}},
		{Rates: []int64{100}},
		{Breaks: []int64{0, 5}, Rates: []int64{100}},
		{Breaks: []int64{0}, Rates: []int64{100, 200}},
		{Breaks: []int64{1}, Rates: []int64{100}},
		{Breaks: []int64{-1}, Rates: []int64{100}},
		{Breaks: []int64{-1, 0}, Rates: []int64{100, 100}},
		{Breaks: []int64{0, 0}, Rates: []int64{100, 200}},
		{Breaks: []int64{0, 7, 7}, Rates: []int64{100, 200, 300}},
		{Breaks: []int64{0, 7, 6}, Rates: []int64{100, 200, 300}},
		{Breaks: []int64{0, impl.MaxCents + 1}, Rates: []int64{100, 200}},
		{Breaks: []int64{0, math.MinInt64}, Rates: []int64{100, 200}},
		{Breaks: []int64{0, math.MaxInt64}, Rates: []int64{100, 200}},
		{Breaks: []int64{0}, Rates: []int64{-1}},
		{Breaks: []int64{0}, Rates: []int64{10001}},
		{Breaks: []int64{0, 5}, Rates: []int64{100, math.MaxInt64}},
		{Breaks: []int64{0, 5}, Rates: []int64{math.MinInt64, 100}},
		{Breaks: nine, Rates: nine},
	}
}

// spoilings has for each argument changes by which it is not as it must be.
func spoilings() map[string][]func(*scaleArguments) {
	const most = impl.MaxCents
	many := slices.Repeat([]int64{1}, impl.MaxPays+1)
	all := map[string][]func(*scaleArguments){
		"cents":     spoiledInt(func(a *scaleArguments) *int64 { return &a.cents }, 0, most),
		"net":       spoiledInt(func(a *scaleArguments) *int64 { return &a.net }, 0, most),
		"due":       spoiledInt(func(a *scaleArguments) *int64 { return &a.due }, 0, most),
		"credit":    spoiledInt(func(a *scaleArguments) *int64 { return &a.credit }, 0, most),
		"full":      spoiledInt(func(a *scaleArguments) *int64 { return &a.full }, 0, most),
		"start":     spoiledInt(func(a *scaleArguments) *int64 { return &a.start }, 0, most),
		"limit":     spoiledInt(func(a *scaleArguments) *int64 { return &a.limit }, 0, most),
		"free":      spoiledInt(func(a *scaleArguments) *int64 { return &a.free }, 0, most),
		"rate":      spoiledInt(func(a *scaleArguments) *int64 { return &a.rate }, 0, 10000),
		"last":      spoiledInt(func(a *scaleArguments) *int64 { return &a.last }, 0, 10000),
		"round":     spoiledInt(func(a *scaleArguments) *int64 { return &a.round }, 0, 3),
		"quotAbove": spoiledInt(func(a *scaleArguments) *int64 { return &a.quotAbove }, 0, 4000000000000000000),
		"quotBelow": spoiledInt(func(a *scaleArguments) *int64 { return &a.quotBelow }, 1, 1000000000),
		"mix":       spoiledInt(func(a *scaleArguments) *int64 { return &a.mix }, 0, 20000),
		"above":     spoiledInt(func(a *scaleArguments) *int64 { return &a.above }, 1, 1000),
		"below":     spoiledInt(func(a *scaleArguments) *int64 { return &a.below }, 1, 1000),
		"index":     spoiledInt(func(a *scaleArguments) *int64 { return &a.index }, -5000, 10000),
		"step":      spoiledInt(func(a *scaleArguments) *int64 { return &a.step }, 1, 1000000),
		"workers":   spoiledInt(func(a *scaleArguments) *int64 { return &a.workers }, 1, impl.MaxWorkers),
		"pays": spoiledNone(func(a *scaleArguments) *[]int64 { return &a.pays }, many,
			[]int64{-1}, []int64{5, -1, 5}, []int64{most + 1}, []int64{most, 1}, []int64{math.MaxInt64, math.MaxInt64}, []int64{math.MinInt64, math.MinInt64}),
		"amounts": spoiledNone(func(a *scaleArguments) *[]int64 { return &a.amounts }, many,
			[]int64{-1}, []int64{5, 5, -1}, []int64{most + 1, 1}, []int64{1, math.MaxInt64}, []int64{math.MinInt64}),
		"breaks": spoiledNone(func(a *scaleArguments) *[]int64 { return &a.breaks },
			[]int64{1, 1000}, []int64{0, 0}, []int64{0, -1}, []int64{0, most + 1}, []int64{0}, []int64{0, 1000, 2000}),
		"duesThere": spoiledNone(func(a *scaleArguments) *[]int64 { return &a.duesThere },
			[]int64{1, 101}, []int64{0, -100}, []int64{0, 1001}, []int64{0, most + 1}, []int64{0}, []int64{0, 100, 200}, []int64{0, math.MaxInt64}, []int64{-100, 0}),
	}
	for _, bad := range badScales() {
		all["s"] = append(all["s"], func(a *scaleArguments) { a.s = bad })
		all["other"] = append(all["other"], func(a *scaleArguments) { a.other = bad })
	}
	return all
}

// flatArguments has arguments as good, with scales of one break, which no
// factor and no step can put out of order.
func flatArguments() *scaleArguments {
	a := goodArguments()
	a.s, a.other = scaleWith(0, 1000), scaleWith(0, 0)
	return a
}

// Every function fails for each argument that is not as its section requires,
// with zero values, and succeeds for good ones.
func TestChapter2InvalidArguments(t *testing.T) {
	spoilAll(t, callsOfChapter2(), spoilings(), goodArguments)
	spoilAll(t, callsOfChapter2(), spoilings(), flatArguments)
}

// Limits can be reached exactly: every function succeeds at them.
func TestChapter2OutmostArguments(t *testing.T) {
	const most = impl.MaxCents
	outmost := []func(*scaleArguments){
		func(a *scaleArguments) { a.cents, a.start = 1, 0 },
		func(a *scaleArguments) { a.cents, a.full, a.last = most, 0, 0 },
		func(a *scaleArguments) { a.due, a.credit = most, 0 },
		func(a *scaleArguments) { a.due, a.credit = 0, most },
		func(a *scaleArguments) { a.net, a.full, a.limit, a.last = 0, 0, 0, 10000 },
		func(a *scaleArguments) { a.free, a.rate = 0, 10000 },
		func(a *scaleArguments) { a.free, a.start, a.full, a.rate = most, most, 0, 0 },
		func(a *scaleArguments) { a.round, a.quotAbove, a.quotBelow = 0, 4000000000000000000, 1 },
		func(a *scaleArguments) { a.round, a.quotAbove, a.quotBelow = 3, 0, 1000000000 },
		func(a *scaleArguments) { a.mix, a.above, a.below = 0, 1000, 1 },
		func(a *scaleArguments) { a.mix, a.above, a.below = 20000, 1, 1000 },
		func(a *scaleArguments) { a.index, a.step, a.workers = -5000, 1, 1 },
		func(a *scaleArguments) { a.index, a.step, a.workers = 10000, 2000, impl.MaxWorkers },
		func(a *scaleArguments) { a.pays, a.amounts = []int64{0}, []int64{most} },
		func(a *scaleArguments) {
			a.pays, a.amounts = slices.Repeat([]int64{most / 3600}, impl.MaxPays), slices.Repeat([]int64{most}, impl.MaxPays)
		},
	}
	allSucceed(t, callsOfChapter2(), outmost, goodArguments)
}

func TestChapter2Limits(t *testing.T) {
	isInt(t, "MaxCents", impl.MaxCents, 1000000000000)
	isInt(t, "MaxBreaks", impl.MaxBreaks, 8)
	isInt(t, "MaxPays", impl.MaxPays, 60)
	isInt(t, "MaxWorkers", impl.MaxWorkers, 8)
}
