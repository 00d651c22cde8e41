package tests

import (
	"math"
	"slices"
	"strings"
	"testing"

	"loop.example/g01393/impl"
)

// peopleArguments has one argument of each kind that functions of chapter 7 take.
type peopleArguments struct {
	p                       impl.People
	years, from, to, rounds int64
	z                       complex64
	lasting                 impl.People // of whom some of the last age do not stay
	work, old               int64
	share, mean, wide       float32
	seed, count             int64
	start                   float32
	ins, outs, returns      []float32
	fundRounds              int64
	incomes, earned, after  []int64 // of which those that are earned are not all 0
	top, line               int64
	many                    [][]int64
	workers                 int64
	weights                 []float32
	a, b                    []int64
	aims, goals             []float32
	rakes                   int64
	saved                   impl.Saved
	list                    []impl.Saved
	stored                  string
}

type peopleCall = argumentCall[*peopleArguments]

func callsOfChapter7() []peopleCall {
	return slices.Concat(callsOfPeople(), callsOfReturns(), callsOfIncomes(), callsOfFiles())
}

func callsOfPeople() []peopleCall {
	return []peopleCall{
		{"ValidPeople", []string{"p"}, func(a *peopleArguments) []any { return results(impl.ValidPeople(a.p)) }},
		{"NextPeople", []string{"p"}, func(a *peopleArguments) []any { return results(impl.NextPeople(a.p)) }},
		{"RunPeople", []string{"p", "years"}, func(a *peopleArguments) []any { return results(impl.RunPeople(a.p, a.years)) }},
		{"SumPeople", []string{"p", "from", "to"}, func(a *peopleArguments) []any { return results(impl.SumPeople(a.p, a.from, a.to)) }},
		{"GrowthOf", []string{"p", "rounds"}, func(a *peopleArguments) []any { return results(impl.GrowthOf(a.p, a.rounds)) }},
		{"RenewalAt", []string{"p", "z"}, func(a *peopleArguments) []any { return results(impl.RenewalAt(a.p, a.z)) }},
		{"LifeLeft", []string{"lasting"}, func(a *peopleArguments) []any { return results(impl.LifeLeft(a.lasting)) }},
		{"PeopleRate", []string{"p", "work", "old", "share"}, func(a *peopleArguments) []any {
			return results(impl.PeopleRate(a.p, a.work, a.old, a.share))
		}},
	}
}

func callsOfReturns() []peopleCall {
	return []peopleCall{
		{"DrawnReturns", []string{"mean", "wide", "seed", "count"}, func(a *peopleArguments) []any {
			return results(impl.DrawnReturns(a.mean, a.wide, a.seed, a.count))
		}},
		{"RunFund", []string{"start", "ins", "outs", "returns"}, func(a *peopleArguments) []any {
			return results(impl.RunFund(a.start, a.ins, a.outs, a.returns))
		}},
		{"FundRate", []string{"start", "ins", "outs", "returns", "fundRounds"}, func(a *peopleArguments) []any {
			return results(impl.FundRate(a.start, a.ins, a.outs, a.returns, a.fundRounds))
		}},
		{"WorthNow", []string{"outs", "returns"}, func(a *peopleArguments) []any { return results(impl.WorthNow(a.outs, a.returns)) }},
		{"RakeWeights", []string{"weights", "a", "b", "aims", "goals", "rakes"}, func(a *peopleArguments) []any {
			return results(impl.RakeWeights(a.weights, a.a, a.b, a.aims, a.goals, a.rakes))
		}},
	}
}

func callsOfIncomes() []peopleCall {
	return []peopleCall{
		{"AreIncomes", []string{"incomes"}, func(a *peopleArguments) []any { return results(impl.AreIncomes(a.incomes)) }},
		{"EvennessCurve", []string{"incomes"}, func(a *peopleArguments) []any { return results(impl.EvennessCurve(a.incomes)) }},
		{"UnevenOf", []string{"earned"}, func(a *peopleArguments) []any { return results(impl.UnevenOf(a.earned)) }},
		{"ShareOfTop", []string{"earned", "top"}, func(a *peopleArguments) []any { return results(impl.ShareOfTop(a.earned, a.top)) }},
		{"TenParts", []string{"incomes"}, func(a *peopleArguments) []any { return results(impl.TenParts(a.incomes)) }},
		{"PoorOf", []string{"incomes", "line"}, func(a *peopleArguments) []any { return results(impl.PoorOf(a.incomes, a.line)) }},
		{"EntropyOf", []string{"earned"}, func(a *peopleArguments) []any { return results(impl.EntropyOf(a.earned)) }},
		{"ChangedRanks", []string{"incomes", "after"}, func(a *peopleArguments) []any {
			return results(impl.ChangedRanks(a.incomes, a.after))
		}},
		{"ChangedRanks, turned", []string{"incomes", "after"}, func(a *peopleArguments) []any {
			return results(impl.ChangedRanks(a.after, a.incomes))
		}},
		{"UnevenShared", []string{"many", "workers"}, func(a *peopleArguments) []any { return results(impl.UnevenShared(a.many, a.workers)) }},
	}
}

func callsOfFiles() []peopleCall {
	return []peopleCall{
		{"ValidSaved", []string{"saved"}, func(a *peopleArguments) []any { return results(impl.ValidSaved(a.saved)) }},
		{"StoreSaved", []string{"saved"}, func(a *peopleArguments) []any { return results(impl.StoreSaved(a.saved)) }},
		{"LoadSaved", []string{"stored"}, func(a *peopleArguments) []any { return results(impl.LoadSaved(a.stored)) }},
		{"StoreAll", []string{"list"}, func(a *peopleArguments) []any { return results(impl.StoreAll(a.list)) }},
	}
}

// goodPeopleArguments has arguments for which every function of chapter 7 succeeds.
func goodPeopleArguments() *peopleArguments {
	births, stays := []float32{0, 1, 0.5, 0}, []float32{0.75, 0.5, 1, 0.25}
	first := savedOf("a", []impl.Rule{ruleOf(1, 0, 0, 0)}, 7)
	return &peopleArguments{
		p: peopleOf([]float32{10, 8, 4, 6}, stays, births), years: 3, from: 1, to: 2, rounds: 5, z: complex(1.25, -0.5),
		lasting: peopleOf([]float32{1, 2, 3, 4}, slices.Clone(stays), slices.Clone(births)), work: 1, old: 2, share: 0.5,
		mean: 0.03, wide: 0.1, seed: 5, count: 7, start: 100, ins: []float32{1, 2, 3}, outs: []float32{10, 20, 100}, returns: []float32{0.5, -0.25, 0.125}, fundRounds: 9,
		incomes: []int64{3, 0, 9}, earned: []int64{5, 2, 0, 1}, after: []int64{2, 2, 1}, top: 2, line: 4,
		many: [][]int64{{3, 1}, {0, 2, 2}}, workers: 2,
		weights: []float32{1, 2, 3}, a: []int64{0, 1, 0}, b: []int64{1, 0, 1}, aims: []float32{1, 3}, goals: []float32{4, 5}, rakes: 3,
		saved: savedOf("name", []impl.Rule{ruleOf(2, 0, 9, 1, 1), ruleOf(-2, 3, 5, 2)}, 7, 0), list: []impl.Saved{first, savedOf("b", nil, 8)}, stored: slowStored(first),
	}
}

// spoiledPeopleArguments has for each argument changes by which it is not as it must be.
func spoiledPeopleArguments() map[string][]func(*peopleArguments) {
	all := map[string][]func(*peopleArguments){
		"years":      spoiledInt(func(a *peopleArguments) *int64 { return &a.years }, 0, impl.MaxYears),
		"from":       spoiledInt(func(a *peopleArguments) *int64 { return &a.from }, 0, 2),
		"to":         spoiledInt(func(a *peopleArguments) *int64 { return &a.to }, 1, 3),
		"rounds":     spoiledInt(func(a *peopleArguments) *int64 { return &a.rounds }, 1, impl.MaxYears),
		"work":       spoiledInt(func(a *peopleArguments) *int64 { return &a.work }, 0, 1),
		"old":        spoiledInt(func(a *peopleArguments) *int64 { return &a.old }, 2, 3),
		"seed":       spoiledInt(func(a *peopleArguments) *int64 { return &a.seed }, 0, 4294967295),
		"count":      spoiledInt(func(a *peopleArguments) *int64 { return &a.count }, 1, impl.MaxYears),
		"fundRounds": spoiledInt(func(a *peopleArguments) *int64 { return &a.fundRounds }, 1, 40),
		"top":        spoiledInt(func(a *peopleArguments) *int64 { return &a.top }, 0, 4),
		"line":       spoiledInt(func(a *peopleArguments) *int64 { return &a.line }, 0, 1000000000),
		"workers":    spoiledInt(func(a *peopleArguments) *int64 { return &a.workers }, 1, impl.MaxWorkers),
		"rakes":      spoiledInt(func(a *peopleArguments) *int64 { return &a.rakes }, 1, 64),
		"incomes":    spoiledList(func(a *peopleArguments) *[]int64 { return &a.incomes }, badIncomes()...),
		"earned":     spoiledList(func(a *peopleArguments) *[]int64 { return &a.earned }, append(badIncomes(), []int64{0, 0, 0, 0})...),
		"after":      spoiledList(func(a *peopleArguments) *[]int64 { return &a.after }, append(badIncomes(), []int64{2, 2}, []int64{2, 2, 1, 1})...),
	}
	spoilPeople(all)
	spoilReturns(all)
	spoilRakings(all)
	spoilFiles(all)
	for _, bad := range append(badIncomes(), []int64{0}) {
		all["many"] = append(all["many"], func(a *peopleArguments) { a.many = [][]int64{{1}, bad} }, func(a *peopleArguments) { a.many = [][]int64{bad, {1}} })
	}
	all["many"] = append(all["many"], func(a *peopleArguments) { a.many = slices.Repeat([][]int64{{1}}, 17) }, func(a *peopleArguments) { a.many = make([][]int64, 17) })
	return all
}

// spoiledNumber has some numbers for a field.
func spoiledNumber(field func(a *peopleArguments) *float32, numbers ...float32) []func(*peopleArguments) {
	var all []func(*peopleArguments)
	for _, x := range numbers {
		all = append(all, func(a *peopleArguments) { *field(a) = x })
	}
	return all
}

func spoilPeople(all map[string][]func(*peopleArguments)) {
	for _, bad := range badPeoples() {
		all["p"] = append(all["p"], func(a *peopleArguments) { a.p = bad })
		all["lasting"] = append(all["lasting"], func(a *peopleArguments) { a.lasting = bad })
	}
	all["lasting"] = append(all["lasting"], func(a *peopleArguments) { a.lasting.Stays[3] = 1 })
	all["share"] = spoiledNumber(func(a *peopleArguments) *float32 { return &a.share }, notFinite()...)
	all["z"] = append(all["z"], func(a *peopleArguments) { a.z = 0 }, func(a *peopleArguments) { a.z = complex(minusZero(), minusZero()) })
	for _, x := range notFinite() {
		for _, z := range []complex64{complex(x, 1), complex(1, x), complex(x, x)} {
			all["z"] = append(all["z"], func(a *peopleArguments) { a.z = z })
		}
	}
}

func spoilReturns(all map[string][]func(*peopleArguments)) {
	all["mean"] = spoiledNumber(func(a *peopleArguments) *float32 { return &a.mean }, notFinite()...)
	all["wide"] = spoiledNumber(func(a *peopleArguments) *float32 { return &a.wide }, notFinite()...)
	all["start"] = spoiledNumber(func(a *peopleArguments) *float32 { return &a.start }, notFinite()...)
	lists := [][]float32{nil, {}, {1, 2}, {1, 2, 3, 4}, slices.Repeat([]float32{1}, impl.MaxYears+1)}
	for _, x := range notFinite() {
		lists = append(lists, []float32{x, 2, 3}, []float32{1, x, 3}, []float32{1, 2, x})
	}
	all["ins"] = spoiledList(func(a *peopleArguments) *[]float32 { return &a.ins }, lists...)
	all["outs"] = spoiledList(func(a *peopleArguments) *[]float32 { return &a.outs }, lists...)
	for _, x := range []float32{-1, number(0xbf800001), -number(bitsMost)} {
		lists = append(lists, []float32{x, 2, 3}, []float32{1, x, 3}, []float32{1, 2, x})
	}
	all["returns"] = spoiledList(func(a *peopleArguments) *[]float32 { return &a.returns }, lists...)
}

func spoilRakings(all map[string][]func(*peopleArguments)) {
	good := goodPeopleArguments()
	same := func(one, other any) bool { return told(one) == told(other) }
	for _, r := range badRakings() {
		// One argument alone is spoiled in most of them.
		switch {
		case same(r.a, good.a) && same(r.b, good.b) && same(r.aims, good.aims) && same(r.goals, good.goals):
			all["weights"] = append(all["weights"], func(a *peopleArguments) { a.weights = r.weights })
		case same(r.weights, good.weights) && same(r.b, good.b) && same(r.aims, good.aims) && same(r.goals, good.goals):
			all["a"] = append(all["a"], func(a *peopleArguments) { a.a = r.a })
		case same(r.weights, good.weights) && same(r.a, good.a) && same(r.aims, good.aims) && same(r.goals, good.goals):
			all["b"] = append(all["b"], func(a *peopleArguments) { a.b = r.b })
		case same(r.weights, good.weights) && same(r.a, good.a) && same(r.b, good.b) && same(r.goals, good.goals):
			all["aims"] = append(all["aims"], func(a *peopleArguments) { a.aims = r.aims })
		case same(r.weights, good.weights) && same(r.a, good.a) && same(r.b, good.b) && same(r.aims, good.aims):
			all["goals"] = append(all["goals"], func(a *peopleArguments) { a.goals = r.goals })
		}
	}
}

func spoilFiles(all map[string][]func(*peopleArguments)) {
	for i, bad := range badSaved() {
		all["saved"] = append(all["saved"], func(a *peopleArguments) { a.saved = bad })
		all["list"] = append(all["list"], func(a *peopleArguments) { a.list[i%2] = bad })
	}
	all["list"] = append(all["list"], func(a *peopleArguments) { a.list = slices.Repeat(a.list[:1], impl.MaxSaved+1) })
	for _, s := range noStored() {
		all["stored"] = append(all["stored"], func(a *peopleArguments) { a.stored = s })
	}
	all["stored"] = append(all["stored"], func(a *peopleArguments) { a.stored += "\x00" }, func(a *peopleArguments) { a.stored += a.stored },
		func(a *peopleArguments) { a.stored = a.stored[:len(a.stored)-1] }, func(a *peopleArguments) { a.stored = strings.ToUpper(a.stored) })
}

// Every function fails for each argument that is not as its section requires,
// with zero values, and succeeds for good ones.
func TestChapter7InvalidArguments(t *testing.T) {
	spoilAll(t, callsOfChapter7(), spoiledPeopleArguments(), goodPeopleArguments)
	// What is spoiled matters too where it seems to make no difference.
	spoilAll(t, callsOfChapter7(), spoiledPeopleArguments(), func() *peopleArguments {
		a := goodPeopleArguments()
		a.years, a.share, a.wide, a.top, a.line = 0, 0, 0, 0, 0
		a.outs, a.ins, a.p.Births = []float32{0, 0, 0}, []float32{0, 0, 0}, []float32{0, 0, 0, 0}
		return a
	})
}

// Limits can be reached exactly: every function succeeds at them.
func TestChapter7OutmostArguments(t *testing.T) {
	const most, people = 1000000000, impl.MaxPeople
	years := func(x float32) []float32 { return slices.Repeat([]float32{x}, impl.MaxYears) }
	eight := []int64{7, 6, 5, 4, 3, 2, 1, 0}
	allSucceed(t, callsOfChapter7(), []func(*peopleArguments){
		func(a *peopleArguments) { a.p, a.to, a.from, a.work, a.old = evenPeople(2, 1, 1, 1), 1, 0, 0, 1 },
		func(a *peopleArguments) { a.p, a.to, a.from, a.work, a.old = evenPeople(2, 1, 1, 0), 0, 0, 0, 1 },
		func(a *peopleArguments) {
			a.p, a.from, a.to, a.work, a.old = evenPeople(impl.MaxAges, 1, 0.5, 0.25), 0, impl.MaxAges-1, impl.MaxAges-2, impl.MaxAges-1
		},
		func(a *peopleArguments) { a.p.Births, a.p.Counts[0] = make([]float32, 4), minusZero() },
		func(a *peopleArguments) { a.p.Stays = []float32{1, 1, 1, 1} },
		func(a *peopleArguments) { a.lasting.Stays = []float32{minusZero(), 0, 1, number(0x3f7fffff)} },
		func(a *peopleArguments) { a.years, a.rounds, a.count, a.seed, a.fundRounds, a.rakes = 0, 1, 1, 0, 1, 1 },
		func(a *peopleArguments) {
			a.years, a.rounds, a.count, a.seed, a.fundRounds, a.rakes = impl.MaxYears, impl.MaxYears, impl.MaxYears, 4294967295, 40, 64
		},
		func(a *peopleArguments) { a.z = complex(0, 0x1p60) },
		func(a *peopleArguments) { a.share, a.mean, a.wide = -0x1p100, -0x1p100, -0x1p100 },
		func(a *peopleArguments) { a.ins, a.outs, a.returns = []float32{1}, []float32{2}, []float32{0} },
		func(a *peopleArguments) {
			a.ins, a.outs, a.returns = years(-0.125), years(-2), append(years(0)[1:], justAboveMinusOne())
		},
		func(a *peopleArguments) { a.start, a.outs = -1, []float32{-10, -10, -1000} },
		func(a *peopleArguments) {
			a.incomes, a.earned, a.after, a.top = []int64{0}, []int64{1}, []int64{most}, 1
		},
		func(a *peopleArguments) {
			a.incomes, a.after, a.earned, a.top = make([]int64, people), slices.Repeat([]int64{most}, people), slices.Repeat([]int64{most}, people), people
		},
		func(a *peopleArguments) { a.line, a.workers, a.many = 0, 1, nil },
		func(a *peopleArguments) {
			a.line, a.workers, a.many = most, impl.MaxWorkers, slices.Repeat([][]int64{slices.Repeat([]int64{most}, people)}, 16)
		},
		func(a *peopleArguments) {
			a.weights, a.a, a.b, a.aims, a.goals = []float32{5}, []int64{0}, []int64{0}, []float32{1}, []float32{7}
		},
		func(a *peopleArguments) {
			a.weights, a.a, a.b = slices.Repeat([]float32{2}, people), slices.Repeat(eight, people/8), make([]int64, people)
			a.aims, a.goals = slices.Repeat([]float32{3}, impl.MaxGroups), []float32{9}
		},
		func(a *peopleArguments) { a.saved, a.list = savedOf("a", nil, 0), nil },
		func(a *peopleArguments) {
			a.saved = savedOf("zzzzzzzz", longestRules(), slices.Repeat([]int64{most}, people)...)
			a.list, a.stored = slices.Repeat([]impl.Saved{a.saved}, impl.MaxSaved), slowStored(a.saved)
		},
	}, goodPeopleArguments)
}

func TestChapter7Limits(t *testing.T) {
	isInt(t, "MaxAges", impl.MaxAges, 12)
	isInt(t, "MaxPeople", impl.MaxPeople, 64)
	isInt(t, "MaxYears", impl.MaxYears, 64)
	isInt(t, "MaxGroups", impl.MaxGroups, 8)
	isInt(t, "MaxSaved", impl.MaxSaved, 8)
	isNone(t, "StoreSaved of a least integer", results(impl.StoreSaved(savedOf("a", nil, math.MinInt64))))
}
