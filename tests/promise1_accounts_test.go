package tests

import (
	"fmt"
	"math"
	"slices"
	"strings"
	"testing"

	"loop.example/g01393/impl"
)

// toldRaw tells all memory of the lists, to the end of each capacity.
func (a *accountArguments) toldRaw() string {
	var b strings.Builder
	fmt.Fprint(&b, len(a.ledger), a.ledger[:cap(a.ledger)], len(a.debts), a.debts[:cap(a.debts)])
	for _, list := range a.lists() {
		fmt.Fprint(&b, len(*list), (*list)[:cap(*list)])
	}
	return b.String()
}

func (a *accountArguments) lists() []*[]int64 {
	return []*[]int64{&a.balances, &a.days, &a.yields, &a.weights, &a.rateDays, &a.rates, &a.a, &a.b}
}

func (a *accountArguments) numbers() []*int64 {
	return []*int64{
		&a.day, &a.account, &a.place, &a.undoDay, &a.workers, &a.payCents, &a.payKind, &a.back, &a.on, &a.cents,
		&a.signed, &a.by, &a.of, &a.roundKind, &a.year, &a.month, &a.monthDay, &a.number, &a.kind, &a.from, &a.to, &a.rate, &a.most,
		&a.parts, &a.loan, &a.loanRate, &a.payment, &a.terms, &a.tableCents, &a.tableRate, &a.table,
	}
}

// accountShelves has many arguments for chapter 3: good ones of which some are
// exchanged for any others. The lists have unused capacity that is not 0.
func accountShelves() []*accountArguments {
	const most = impl.MaxSums
	numbers := []int64{0, 1, 2, 3, 7, 11, 12, 29, 31, 64, 119, 120, 121, 1000, 2000, 2099, 9999, lastDay, lastDay + 1, 100000, 1000000, most, most + 1, -1, -most, math.MinInt64, math.MaxInt64}
	lists := append(goodWeights(), nil, []int64{-5, 5}, []int64{2, -1, -1}, []int64{0, 50, 300}, []int64{365, 730, 1}, []int64{math.MinInt64, math.MaxInt64, 1}, make([]int64, 65))
	ledgers := append(goodLedgers(), badLedgers()...)
	debts := append(goodDebts(), badDebts()...)
	g := lcg(12)
	var all []*accountArguments
	for i := range 3000 {
		a := goodAccounts()
		for _, number := range a.numbers() {
			if g.below(5) == 0 {
				*number = g.one(numbers...)
			}
		}
		for _, list := range a.lists() {
			if g.below(3) == 0 {
				*list = lists[g.below(int64(len(lists)-1))]
			}
			*list = roomy(*list)
		}
		if i%3 > 0 {
			a.ledger, a.debts = ledgers[i%len(ledgers)], debts[i%len(debts)]
		}
		a.ledger = append(slices.Clone(a.ledger), manyEntries(9)...)[:len(a.ledger)]
		a.debts = append(slices.Clone(a.debts), debtsOf(1, 2, 3, 4, 5, 6)...)[:len(a.debts)]
		all = append(all, a)
	}
	return all
}

// callsOfAccounts has also the function that never fails.
func callsOfAccounts() []accountCall {
	return append(callsOfChapter3(), accountCall{"SameEntries", nil, func(a *accountArguments) []any {
		return results(impl.SameEntries(a.ledger, slices.Clone(a.ledger)))
	}})
}

// Promise 1: every function of chapter 3 returns for all arguments, modifies
// none of them, and returns equal results for equal arguments.
func TestPromise1Chapter3(t *testing.T) {
	shelves := accountShelves()
	returnSame(t, callsOfAccounts(), shelves)
	someSucceed(t, callsOfChapter3(), shelves)
}

func TestPromise1NewMemoryOfChapter3(t *testing.T) {
	returnNew(t, callsOfAccounts(), accountShelves())
}
