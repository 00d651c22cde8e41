package tests

import (
	"fmt"
	"math"
	"slices"
	"strings"
	"testing"

	"loop.example/g01393/impl"
)

// toldRaw tells all memory of the lists, to the end of each capacity.
func (a *ruleArguments) toldRaw() string {
	var b strings.Builder
	fmt.Fprint(&b, len(a.list), a.list[:cap(a.list)], a.r, a.next, len(a.rows), a.rows[:cap(a.rows)], len(a.many), a.many[:cap(a.many)])
	for _, r := range append(slices.Clone(a.list), a.r, a.next) {
		fmt.Fprint(&b, len(r.Ifs), r.Ifs[:cap(r.Ifs)])
	}
	for _, list := range append(slices.Clone(a.many), a.facts, a.proof) {
		fmt.Fprint(&b, len(list), list[:cap(list)])
	}
	return b.String()
}

func (a *ruleArguments) numbers() []*int64 {
	return []*int64{&a.day, &a.x, &a.workers, &a.from, &a.to, &a.place, &a.change, &a.cases, &a.told}
}

// makeRoomy gives unused capacity that is not 0 to all lists.
func (a *ruleArguments) makeRoomy() {
	a.list = append(cloned(a.list), always(7, 7, 7), always(8, 8, 8))[:len(a.list)]
	for i := range a.list {
		a.list[i].Ifs = roomy(a.list[i].Ifs)
	}
	a.many = append(slices.Clone(a.many), []int64{7, 8}, []int64{9})[:len(a.many)]
	for i, facts := range a.many {
		a.many[i] = roomy(facts)
	}
	a.rows = append(slices.Clone(a.rows), rowsOf(7, 7, 7, 8, 8, 8)...)[:len(a.rows)]
	a.r.Ifs, a.next.Ifs = roomy(a.r.Ifs), roomy(a.next.Ifs)
	a.facts, a.proof = roomy(a.facts), roomy(a.proof)
}

// ruleShelves has many arguments for chapter 5: good ones of which some are
// exchanged for any others.
func ruleShelves() []*ruleArguments {
	numbers := []int64{0, 1, 2, 3, 4, 5, 6, 7, 8, 9, 16, 17, 24, 100, 255, 256, impl.MaxDay, impl.MaxDay + 1, -1, -2, -16, -17, math.MinInt64, math.MaxInt64}
	lists, facts := append(goodRules(), badRules()...), append(goodFacts(), badFacts()...)
	tables, texts := append(goodTables(), badTables()...), append(noRuleTexts(), "0-0 r0: => 1", "10-20 r30: -1 & 2 & -3 => 16")
	g := lcg(36)
	var all []*ruleArguments
	for i := range 2000 {
		a := goodRuleArguments()
		for _, number := range a.numbers() {
			if g.below(6) == 0 {
				*number = g.one(numbers...)
			}
		}
		if i%3 > 0 {
			a.list, a.facts = lists[g.below(int64(len(lists)-1))], facts[g.below(int64(len(facts)-1))]
			a.many = append(a.many, a.facts)
			a.proof = g.list(4, g.one(2, 5, 25))
		}
		if i%4 > 0 {
			table, bad := tables[i%len(tables)], badRule()
			a.cases, a.rows = table.cases, table.rows
			a.text = texts[i%len(texts)]
			a.allTexts = a.text + "\n" + texts[i/4%len(texts)] + "\n"
			a.r, a.next = bad[i%len(bad)], bad[i%len(bad)]
		}
		a.makeRoomy()
		all = append(all, a)
	}
	return all
}

// callsOfRules has also the function that never fails.
func callsOfRules() []ruleCall {
	return append(callsOfChapter5(), ruleCall{"SameRules", nil, func(a *ruleArguments) []any {
		return results(impl.SameRules(a.list, cloned(a.list)), impl.SameRules(a.list, []impl.Rule{a.r, a.next}), true)
	}})
}

// Promise 1: every function of chapter 5 returns for all arguments, modifies
// none of them, and returns equal results for equal arguments.
func TestPromise1Chapter5(t *testing.T) {
	shelves := ruleShelves()
	returnSame(t, callsOfRules(), shelves)
	someSucceed(t, callsOfChapter5(), shelves)
}

func TestPromise1NewMemoryOfChapter5(t *testing.T) {
	returnNew(t, callsOfRules(), ruleShelves())
}
