package tests

import (
	"fmt"
	"math"
	"slices"
	"strings"
	"testing"

	"loop.example/g01393/impl"
)

func (a *peopleArguments) reals() []*[]float32 {
	all := []*[]float32{&a.ins, &a.outs, &a.returns, &a.weights, &a.aims, &a.goals}
	for _, p := range []*impl.People{&a.p, &a.lasting} {
		all = append(all, &p.Counts, &p.Stays, &p.Births)
	}
	return all
}

func (a *peopleArguments) lists() []*[]int64 {
	all := []*[]int64{&a.incomes, &a.earned, &a.after, &a.a, &a.b, &a.saved.Incomes}
	for i := range a.many {
		all = append(all, &a.many[i])
	}
	for i := range a.list {
		all = append(all, &a.list[i].Incomes)
	}
	return all
}

func (a *peopleArguments) ruleLists() []*[]impl.Rule {
	all := []*[]impl.Rule{&a.saved.Rules}
	for i := range a.list {
		all = append(all, &a.list[i].Rules)
	}
	return all
}

func (a *peopleArguments) numbers() []*int64 {
	return []*int64{&a.years, &a.from, &a.to, &a.rounds, &a.work, &a.old, &a.seed, &a.count, &a.fundRounds, &a.top, &a.line, &a.workers, &a.rakes}
}

func (a *peopleArguments) singles() []*float32 {
	return []*float32{&a.share, &a.mean, &a.wide, &a.start}
}

// toldRaw tells all memory of the lists, to the end of each capacity, where
// zeros with a sign and all not-a-numbers are told apart.
func (a *peopleArguments) toldRaw() string {
	var b strings.Builder
	fmt.Fprint(&b, a.stored, len(a.many), a.many[:cap(a.many)], len(a.list), a.list[:cap(a.list)], a.saved)
	for _, list := range a.lists() {
		fmt.Fprint(&b, len(*list), (*list)[:cap(*list)])
	}
	for _, list := range a.reals() {
		fmt.Fprint(&b, len(*list))
		for _, x := range (*list)[:cap(*list)] {
			fmt.Fprintf(&b, " %08x", math.Float32bits(x))
		}
	}
	for _, rules := range a.ruleLists() {
		fmt.Fprint(&b, len(*rules), (*rules)[:cap(*rules)])
		for _, r := range *rules {
			fmt.Fprint(&b, len(r.Ifs), r.Ifs[:cap(r.Ifs)])
		}
	}
	return b.String()
}

// makeRoomy gives unused capacity that is not 0 to all lists.
func (a *peopleArguments) makeRoomy() {
	a.many = append(slices.Clone(a.many), []int64{7, 8}, []int64{9})[:len(a.many)]
	a.list = append(slices.Clone(a.list), savedOf("x", nil, 7), savedOf("y", nil, 8))[:len(a.list)]
	for _, list := range a.lists() {
		*list = roomy(*list)
	}
	for _, list := range a.reals() {
		*list = append(slices.Clone(*list), 0.25, 1, 0.5)[:len(*list)]
	}
	for _, rules := range a.ruleLists() {
		*rules = append(cloned(*rules), always(7, 7, 7), always(8, 8, 8))[:len(*rules)]
		for i := range *rules {
			(*rules)[i].Ifs = roomy((*rules)[i].Ifs)
		}
	}
}

// exchangeLists takes other people, funds, incomes, weights and files, valid ones and others.
func (a *peopleArguments) exchangeLists(g *lcg, i int, other *otherLists) {
	a.p, a.lasting = other.peoples[i%len(other.peoples)], other.peoples[i/2%len(other.peoples)]
	f := other.funds[i%len(other.funds)]
	a.start, a.ins, a.outs, a.returns = f.start, f.ins, f.outs, f.returns
	a.incomes, a.earned = other.incomes[i%len(other.incomes)], other.incomes[i/3%len(other.incomes)]
	a.after = shuffled(g, a.incomes)
	a.many = append(a.many, a.earned)
	r := other.rakings[i%len(other.rakings)]
	a.weights, a.a, a.b, a.aims, a.goals = r.weights, r.a, r.b, r.aims, r.goals
	a.saved = other.saved[i%len(other.saved)]
	a.list = append(a.list, a.saved, other.saved[i/2%len(other.saved)])
	a.stored = slowStored(a.saved)
	if i%5 == 0 {
		a.stored = other.stored[i/5%len(other.stored)]
	}
}

// otherLists has what arguments are exchanged for.
type otherLists struct {
	peoples []impl.People
	funds   []fund
	incomes [][]int64
	rakings []raking
	saved   []impl.Saved
	stored  []string
}

// peopleShelves has many arguments for chapter 7: good ones of which some are
// exchanged for any others.
func peopleShelves() []*peopleArguments {
	numbers := []int64{0, 1, 2, 3, 5, 8, 12, 40, 41, 64, 65, 1000000000, 1000000001, 4294967295, 4294967296, -1, -2, math.MinInt64, math.MaxInt64}
	singles := append(notFinite(), 0, minusZero(), 1, -1, 0.5, number(bitsLeast), number(bitsMost), -number(bitsMost))
	other := &otherLists{
		peoples: append(goodPeoples(), badPeoples()...),
		funds:   append(goodFunds(), badFunds()...),
		incomes: append(goodIncomes(), badIncomes()...),
		rakings: append(goodRakings()[:200], badRakings()...),
		saved:   append(goodSaved(), badSaved()...),
		stored:  noStored(),
	}
	g := lcg(211)
	var all []*peopleArguments
	for i := range 1500 {
		a := goodPeopleArguments()
		if i%3 > 0 {
			a.exchangeLists(&g, i, other)
		}
		for _, n := range a.numbers() {
			if g.below(6) == 0 {
				*n = g.one(numbers...)
			}
		}
		for _, x := range a.singles() {
			if g.below(6) == 0 {
				*x = singles[g.below(int64(len(singles)-1))]
			}
		}
		if g.below(6) == 0 {
			a.z = complex(singles[i%len(singles)], singles[i/len(singles)%len(singles)])
		}
		a.makeRoomy()
		all = append(all, a)
	}
	return all
}

// callsOfPeoples has also the functions that never fail.
func callsOfPeoples() []peopleCall {
	return append(callsOfChapter7(),
		peopleCall{"SamePeople", nil, func(a *peopleArguments) []any {
			return results(impl.SamePeople(a.p, clonedPeople(a.p)), impl.SamePeople(a.p, a.lasting), true)
		}},
		peopleCall{"SameSaved", nil, func(a *peopleArguments) []any {
			return results(impl.SameSaved(a.list, slices.Clone(a.list)), impl.SameSaved(a.list, []impl.Saved{a.saved}), true)
		}},
		peopleCall{"RecoverAll", nil, func(a *peopleArguments) []any {
			return results(impl.RecoverAll(slowStored(goodPeopleArguments().list[0]) + a.stored + a.stored))
		}})
}

// Promise 1: every function of chapter 7 returns for all arguments, modifies
// none of them, and returns equal results for equal arguments.
func TestPromise1Chapter7(t *testing.T) {
	shelves := peopleShelves()
	returnSame(t, callsOfPeoples(), shelves)
	someSucceed(t, callsOfChapter7(), shelves)
}

func TestPromise1NewMemoryOfChapter7(t *testing.T) {
	returnNew(t, callsOfPeoples(), peopleShelves())
}
