package tests

import (
	"math"
	"slices"
	"strings"
	"testing"

	"loop.example/g01393/impl"
)

// ruleArguments has one argument of each kind that functions of chapter 5 take.
type ruleArguments struct {
	list           []impl.Rule
	r              impl.Rule
	facts          []int64
	day, x         int64
	proof          []int64
	many           [][]int64
	workers        int64
	from, to       int64
	place, change  int64
	next           impl.Rule
	text, allTexts string
	cases          int64
	rows           []impl.Row
	told           int64
}

type ruleCall = argumentCall[*ruleArguments]

func callsOfChapter5() []ruleCall {
	return slices.Concat(callsOfAnswers(), callsOfTexts(), callsOfTables())
}

func callsOfAnswers() []ruleCall {
	return []ruleCall{
		{"ValidRule", []string{"r"}, func(a *ruleArguments) []any { return results(impl.ValidRule(a.r)) }},
		{"AreRules", []string{"list"}, func(a *ruleArguments) []any { return results(impl.AreRules(a.list)) }},
		{"ActiveRules", []string{"list", "day"}, func(a *ruleArguments) []any { return results(impl.ActiveRules(a.list, a.day)) }},
		{"AnswersOf", []string{"list", "facts", "day"}, func(a *ruleArguments) []any { return results(impl.AnswersOf(a.list, a.facts, a.day)) }},
		{"OpenOf", []string{"list", "facts", "day"}, func(a *ruleArguments) []any { return results(impl.OpenOf(a.list, a.facts, a.day)) }},
		{"ProofOf", []string{"list", "facts", "day", "x"}, func(a *ruleArguments) []any { return results(impl.ProofOf(a.list, a.facts, a.day, a.x)) }},
		{"IsProof", []string{"list", "facts", "day", "proof", "x"}, func(a *ruleArguments) []any {
			return results(impl.IsProof(a.list, a.facts, a.day, a.proof, a.x))
		}},
		{"AnswersShared", []string{"list", "many", "day", "workers"}, func(a *ruleArguments) []any {
			return results(impl.AnswersShared(a.list, a.many, a.day, a.workers))
		}},
		{"ClashesOf", []string{"list", "day"}, func(a *ruleArguments) []any { return results(impl.ClashesOf(a.list, a.day)) }},
		{"NeedsOf", []string{"list", "day", "x"}, func(a *ruleArguments) []any { return results(impl.NeedsOf(a.list, a.day, a.x)) }},
		{"ChangeDays", []string{"list"}, func(a *ruleArguments) []any { return results(impl.ChangeDays(a.list)) }},
		{"DaysProved", []string{"list", "facts", "x", "from", "to"}, func(a *ruleArguments) []any {
			return results(impl.DaysProved(a.list, a.facts, a.x, a.from, a.to))
		}},
	}
}

func callsOfTexts() []ruleCall {
	return []ruleCall{
		{"AmendRule", []string{"list", "place", "change", "next"}, func(a *ruleArguments) []any {
			return results(impl.AmendRule(a.list, a.place, a.change, a.next))
		}},
		{"RepealRule", []string{"list", "place", "change"}, func(a *ruleArguments) []any { return results(impl.RepealRule(a.list, a.place, a.change)) }},
		{"RulesAt", []string{"list", "day"}, func(a *ruleArguments) []any { return results(impl.RulesAt(a.list, a.day)) }},
		{"RuleText", []string{"r"}, func(a *ruleArguments) []any { return results(impl.RuleText(a.r)) }},
		{"ReadRule", []string{"text"}, func(a *ruleArguments) []any { return results(impl.ReadRule(a.text)) }},
		{"RulesText", []string{"list"}, func(a *ruleArguments) []any { return results(impl.RulesText(a.list)) }},
		{"ReadRules", []string{"allTexts"}, func(a *ruleArguments) []any { return results(impl.ReadRules(a.allTexts)) }},
	}
}

func callsOfTables() []ruleCall {
	takes := []string{"cases", "rows"}
	return []ruleCall{
		{"AreRows", takes, func(a *ruleArguments) []any { return results(impl.AreRows(a.cases, a.rows)) }},
		{"RowAnswer", []string{"cases", "rows", "told"}, func(a *ruleArguments) []any { return results(impl.RowAnswer(a.cases, a.rows, a.told)) }},
		{"RowGaps", takes, func(a *ruleArguments) []any { return results(impl.RowGaps(a.cases, a.rows)) }},
		{"RowClashes", takes, func(a *ruleArguments) []any { return results(impl.RowClashes(a.cases, a.rows)) }},
		{"FirstRows", takes, func(a *ruleArguments) []any { return results(impl.FirstRows(a.cases, a.rows)) }},
		{"RowCounts", takes, func(a *ruleArguments) []any { return results(impl.RowCounts(a.cases, a.rows)) }},
	}
}

// goodRuleArguments has arguments for which every function of chapter 5 succeeds.
func goodRuleArguments() *ruleArguments {
	return &ruleArguments{
		list: []impl.Rule{ruleOf(2, 0, 9, 1, 1), ruleOf(-2, 0, 5, 2, 3), ruleOf(4, 0, 9, 0, 2)},
		r:    ruleOf(2, 0, 9, 1, 1), facts: []int64{1}, day: 7, x: 4, proof: []int64{0, 2},
		many: [][]int64{{1}, {1, -3}}, workers: 2, from: 2, to: 20,
		place: 1, change: 3, next: ruleOf(5, 0, 8, 3, -1, 2),
		text: "1-2 r3: 1 & -4 => -5", allTexts: "0-0 r0: => 1\n1-2 r3: 1 & -4 => -5\n",
		cases: 2, rows: rowsOf(1, 1, 7, 2, 0, 8), told: 3,
	}
}

// otherRuleArguments has a fact that is proved without any rule, so that
// functions succeed but for the arguments that are not as they must be.
func otherRuleArguments() *ruleArguments {
	a := goodRuleArguments()
	a.x, a.proof, a.text, a.allTexts = 1, nil, "0-9 r1: 1 => 2", ""
	a.rows, a.told = rowsOf(0, 0, 7), 0
	a.next.Ifs, a.r.Ifs = nil, nil
	return a
}

// spoiledRuleArguments has for each argument changes by which it is not as it must be.
func spoiledRuleArguments() map[string][]func(*ruleArguments) {
	proof := func(a *ruleArguments) *[]int64 { return &a.proof }
	all := map[string][]func(*ruleArguments){
		"day":     spoiledInt(func(a *ruleArguments) *int64 { return &a.day }, 0, impl.MaxDay),
		"x":       append(spoiledInt(func(a *ruleArguments) *int64 { return &a.x }, -16, 16), func(a *ruleArguments) { a.x = 0 }),
		"workers": spoiledInt(func(a *ruleArguments) *int64 { return &a.workers }, 1, impl.MaxWorkers),
		"from":    spoiledInt(func(a *ruleArguments) *int64 { return &a.from }, 0, 20),
		"to":      spoiledInt(func(a *ruleArguments) *int64 { return &a.to }, 2, impl.MaxDay),
		"place":   spoiledInt(func(a *ruleArguments) *int64 { return &a.place }, 0, 2),
		"change":  spoiledInt(func(a *ruleArguments) *int64 { return &a.change }, 1, 5),
		"told":    spoiledInt(func(a *ruleArguments) *int64 { return &a.told }, 0, 3),
		"facts":   spoiledList(func(a *ruleArguments) *[]int64 { return &a.facts }, badFacts()...),
		"proof":   spoiledList(proof, []int64{-1}, []int64{3}, []int64{0, 3, 2}, []int64{-1, 0, 2}, []int64{0, 2, 3}, []int64{0, math.MinInt64, 2}, []int64{math.MaxInt64, 0, 2}, []int64{1, 24}),
		"cases":   spoiledInt(func(a *ruleArguments) *int64 { return &a.cases }, 1, impl.MaxCases),
		"rows":    spoiledList(func(a *ruleArguments) *[]impl.Row { return &a.rows }, badRowLists()...),
	}
	for _, cases := range []int64{63, 64, 65, 66, -62, -63, -64} {
		all["cases"] = append(all["cases"], func(a *ruleArguments) { a.cases = cases })
	}
	for _, bad := range badFacts() {
		all["many"] = append(all["many"], func(a *ruleArguments) { a.many = [][]int64{{1}, bad} }, func(a *ruleArguments) { a.many = [][]int64{bad, {1}} })
	}
	all["many"] = append(all["many"], func(a *ruleArguments) { a.many = slices.Repeat([][]int64{{1}}, 17) }, func(a *ruleArguments) { a.many = make([][]int64, 17) })
	for _, s := range noRuleTexts() {
		all["text"] = append(all["text"], func(a *ruleArguments) { a.text = s })
		all["allTexts"] = append(all["allTexts"], func(a *ruleArguments) { a.allTexts += s + "\n" }, func(a *ruleArguments) { a.allTexts = s + "\n" + a.allTexts })
	}
	all["allTexts"] = append(all["allTexts"], func(a *ruleArguments) { a.allTexts += "0-0 r0: => 1" }, func(a *ruleArguments) { a.allTexts = strings.Repeat("0-0 r0: => 1\n", impl.MaxRules+1) })
	spoilRules(all)
	return all
}

func spoilRules(all map[string][]func(*ruleArguments)) {
	list := func(a *ruleArguments) *[]impl.Rule { return &a.list }
	all["list"] = append(spoiledList(list, badRules()...), func(a *ruleArguments) {
		a.list = append(cloned(a.list), slices.Repeat([]impl.Rule{ruleOf(9, 50, 60, 0)}, impl.MaxRules-2)...)
	})
	for _, bad := range badRule() {
		all["r"] = append(all["r"], func(a *ruleArguments) { a.r = bad })
		all["list"] = append(all["list"],
			func(a *ruleArguments) { a.list = append(cloned(a.list), bad) },
			func(a *ruleArguments) { a.list = slices.Concat(a.list[:1], []impl.Rule{bad}, a.list[2:]) })
	}
	for _, bad := range append(badButFrom(), ruleOf(5, 0, 2, 3), ruleOf(5, 0, -1, 3)) {
		all["next"] = append(all["next"], func(a *ruleArguments) { a.next = bad })
	}
}

// Every function fails for each argument that is not as its section requires,
// with zero values, and succeeds for good ones.
func TestChapter5InvalidArguments(t *testing.T) {
	spoilAll(t, callsOfChapter5(), spoiledRuleArguments(), goodRuleArguments)
	spoilAll(t, callsOfChapter5(), spoiledRuleArguments(), func() *ruleArguments {
		a := otherRuleArguments()
		a.rows = rowsOf(0, 0, 7, 3, 1, 8)
		return a
	})
}

// Limits can be reached exactly: every function succeeds at them.
func TestChapter5OutmostArguments(t *testing.T) {
	const most = impl.MaxDay
	full := append(make([]impl.Rule, 0, impl.MaxRules), goodRuleArguments().list...)
	for len(full) < impl.MaxRules-1 {
		full = append(full, ruleOf(-16, most, most, 100, 11, -12, 13, -14, 15, -16))
	}
	allSucceed(t, callsOfChapter5(), []func(*ruleArguments){
		func(a *ruleArguments) { a.list = full },
		func(a *ruleArguments) {
			a.list, a.place, a.change = full[:1], 0, 9
			a.x, a.proof, a.next.To = 2, nil, 9
		},
		func(a *ruleArguments) {
			a.list, a.place, a.change = []impl.Rule{ruleOf(4, 0, most, 100), ruleOf(1, 0, most, 0)}, 1, most
			a.next, a.proof, a.day = ruleOf(-16, most, most, 100), []int64{0}, most
		},
		func(a *ruleArguments) { a.day, a.facts, a.x, a.proof = 0, []int64{-16}, -16, []int64{} },
		func(a *ruleArguments) { a.day, a.facts, a.x = most, []int64{4}, 4 },
		func(a *ruleArguments) { a.facts, a.x = []int64{1, 16}, 16 },
		func(a *ruleArguments) { a.many, a.workers = nil, 1 },
		func(a *ruleArguments) { a.many, a.workers = make([][]int64, 16), impl.MaxWorkers },
		func(a *ruleArguments) { a.facts = []int64{1, -2, 3, 4, 5, -6, 7, 8, 9, 10, 11, 12, 13, -14, 15, -16} },
		func(a *ruleArguments) { a.from, a.to = 0, 0 },
		func(a *ruleArguments) { a.from, a.to = 0, most },
		func(a *ruleArguments) { a.from, a.to = most, most },
		func(a *ruleArguments) { a.change = 1 },
		func(a *ruleArguments) { a.change = 5 },
		func(a *ruleArguments) { a.next.From = math.MinInt64 },
		func(a *ruleArguments) { a.next.From, a.next.To = math.MaxInt64, 3 },
		func(a *ruleArguments) {
			a.r, a.text = ruleOf(16, most, most, 100, 1, 2, 3, 4, 5, 6), "100000-100000 r100: 1 & 2 & 3 & 4 & 5 & 6 => 16"
		},
		func(a *ruleArguments) { a.r, a.text, a.allTexts = ruleOf(-16, 0, 0, 0), "0-0 r0: => -16", "" },
		func(a *ruleArguments) {
			a.allTexts = strings.Repeat("100000-100000 r100: 1 & 2 & 3 & 4 & 5 & 6 => 16\n", impl.MaxRules)
		},
		func(a *ruleArguments) { a.cases, a.rows, a.told = 1, rowsOf(0, 0, 0), 0 },
		func(a *ruleArguments) {
			a.cases, a.rows, a.told = 8, slices.Repeat(rowsOf(255, 255, 100), impl.MaxRows), 255
		},
	}, goodRuleArguments)
}
