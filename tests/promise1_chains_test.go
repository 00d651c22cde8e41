package tests

import (
	"fmt"
	"math"
	"slices"
	"strings"
	"testing"

	"loop.example/g01393/impl"
)

// toldRaw tells all memory of the lists, to the end of each capacity.
func (a *chainArguments) toldRaw() string {
	var b strings.Builder
	fmt.Fprint(&b, len(a.tariffs), a.tariffs[:cap(a.tariffs)], len(a.lists), a.lists[:cap(a.lists)])
	for _, list := range a.lists {
		fmt.Fprint(&b, list[:cap(list)])
	}
	for _, list := range a.slices() {
		fmt.Fprint(&b, len(*list), (*list)[:cap(*list)])
	}
	return b.String()
}

func (a *chainArguments) slices() []*[]int64 {
	return []*[]int64{
		&a.sales, &a.values, &a.lines, &a.kinds, &a.rates, &a.dues, &a.weights, &a.mixes, &a.nets, &a.totals, &a.s.Breaks, &a.s.Rates,
	}
}

func (a *chainArguments) numbers() []*int64 {
	return []*int64{
		&a.rate, &a.round, &a.price, &a.above, &a.below, &a.total, &a.units, &a.tariff.Rate, &a.tariff.Piece, &a.tariff.Least,
		&a.value, &a.pieces, &a.own, &a.all, &a.due, &a.away, &a.whole, &a.paid, &a.home, &a.abroad, &a.one, &a.two, &a.cents, &a.parts, &a.most,
		&a.first, &a.more, &a.children, &a.full, &a.start, &a.step, &a.count, &a.workers,
	}
}

// exchangeLists exchanges some lists for ones of any kind, and makes all of them roomy.
func (a *chainArguments) exchangeLists(g *lcg, lists [][]int64) {
	for _, list := range a.slices() {
		if g.below(7) == 0 {
			*list = lists[g.below(int64(len(lists)-1))]
		}
		*list = roomy(*list)
	}
	a.lists = append(slices.Clone(a.lists), []int64{7, 8}, []int64{9})[:len(a.lists)]
	for i, list := range a.lists {
		a.lists[i] = roomy(list)
	}
}

// chainShelves has many arguments for chapter 4: good ones of which some are
// exchanged for any others. The lists have unused capacity that is not 0.
func chainShelves() []*chainArguments {
	const most = impl.MaxCents
	numbers := []int64{0, 1, 2, 3, 7, 12, 16, 19, 64, 100, 119, 1000, 5000, 9999, 10000, 10001, 100000, 1000000, 1000000000, most, most + 1, -1, math.MinInt64, math.MaxInt64}
	lists := append(slices.Concat(goodPlaces(), goodNets()[:40]), nil, []int64{most, most}, []int64{math.MinInt64, math.MaxInt64, 1}, []int64{0, -1}, make([]int64, 66))
	tariffs := append(badTariffs(), tariffOf(0, 0, 0), tariffOf(10000, 1000000, 1000000))
	bills, someFactors := goodBills(), goodFactors()
	g := lcg(13)
	var all []*chainArguments
	for i := range 3000 {
		a := goodChains()
		for _, number := range a.numbers() {
			if g.below(6) == 0 {
				*number = g.one(numbers...)
			}
		}
		if i%2 == 0 {
			b, f := bills[i%len(bills)], someFactors[i%len(someFactors)]
			a.lines, a.kinds, a.rates, a.lists, a.mixes = b.lines, b.kinds, b.rates, f.lists, f.mixes
		}
		a.exchangeLists(&g, lists)
		if i%4 == 0 {
			a.tariff, a.tariffs = tariffs[i%len(tariffs)], append(a.tariffs, tariffs[i/4%len(tariffs)])
		}
		a.tariffs = append(slices.Clone(a.tariffs), tariffOf(1, 2, 3), tariffOf(4, 5, 6))[:len(a.tariffs)]
		a.odd = i%3 == 0
		all = append(all, a)
	}
	return all
}

// Promise 1: every function of chapter 4 returns for all arguments, modifies
// none of them, and returns equal results for equal arguments.
func TestPromise1Chapter4(t *testing.T) {
	shelves := chainShelves()
	returnSame(t, callsOfChapter4(), shelves)
	someSucceed(t, callsOfChapter4(), shelves)
}

func TestPromise1NewMemoryOfChapter4(t *testing.T) {
	returnNew(t, callsOfChapter4(), chainShelves())
}
