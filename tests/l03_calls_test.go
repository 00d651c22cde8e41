package tests

import (
	"math"
	"slices"
	"testing"

	"loop.example/g01393/impl"
)

// accountArguments has one argument of each kind that functions of chapter 3 take.
type accountArguments struct {
	ledger                              []impl.Entry
	day, account, place, undoDay        int64
	balances, days                      []int64
	workers                             int64
	debts                               []impl.Debt
	payCents, payKind                   int64
	yields                              []int64
	back, on                            int64
	cents                               int64
	weights                             []int64
	signed, by, of, roundKind           int64
	year, month, monthDay, number       int64
	kind, from, to, rate, most          int64
	rateDays, rates                     []int64
	parts, loan, loanRate, payment      int64
	terms, tableCents, tableRate, table int64
	a, b                                []int64
}

type accountCall = argumentCall[*accountArguments]

func callsOfChapter3() []accountCall {
	return append(callsOfLedgers(), callsOfParts()...)
}

func callsOfLedgers() []accountCall {
	return []accountCall{
		{"AreEntries", []string{"ledger"}, func(a *accountArguments) []any { return results(impl.AreEntries(a.ledger)) }},
		{"BalancesAt", []string{"ledger", "day"}, func(a *accountArguments) []any { return results(impl.BalancesAt(a.ledger, a.day)) }},
		{"FirstShort", []string{"ledger", "account"}, func(a *accountArguments) []any { return results(impl.FirstShort(a.ledger, a.account)) }},
		{"UndoEntry", []string{"ledger", "place", "undoDay"}, func(a *accountArguments) []any { return results(impl.UndoEntry(a.ledger, a.place, a.undoDay)) }},
		{"SettleAccounts", []string{"balances"}, func(a *accountArguments) []any { return results(impl.SettleAccounts(a.balances)) }},
		{"BalancesShared", []string{"ledger", "days", "workers"}, func(a *accountArguments) []any {
			return results(impl.BalancesShared(a.ledger, a.days, a.workers))
		}},
		{"AreDebts", []string{"debts"}, func(a *accountArguments) []any { return results(impl.AreDebts(a.debts)) }},
		{"PayDebts", []string{"debts", "payCents", "payKind"}, func(a *accountArguments) []any { return results(impl.PayDebts(a.debts, a.payCents, a.payKind)) }},
		{"CarryLosses", []string{"yields", "back", "on"}, func(a *accountArguments) []any { return results(impl.CarryLosses(a.yields, a.back, a.on)) }},
		{"MatchSums", []string{"a", "b"}, func(a *accountArguments) []any { return results(impl.MatchSums(a.a, a.b)) }},
		{"MatchSums, turned", []string{"a", "b"}, func(a *accountArguments) []any { return results(impl.MatchSums(a.b, a.a)) }},
	}
}

func callsOfParts() []accountCall {
	return []accountCall{
		{"SplitCents", []string{"cents", "weights"}, func(a *accountArguments) []any { return results(impl.SplitCents(a.cents, a.weights)) }},
		{"SplitInTurn", []string{"cents", "weights"}, func(a *accountArguments) []any { return results(impl.SplitInTurn(a.cents, a.weights)) }},
		{"RoundPart", []string{"signed", "by", "of", "roundKind"}, func(a *accountArguments) []any {
			return results(impl.RoundPart(a.signed, a.by, a.of, a.roundKind))
		}},
		{"EvenParts", []string{"cents", "parts"}, func(a *accountArguments) []any { return results(impl.EvenParts(a.cents, a.parts)) }},
		{"DayOf", []string{"year", "month", "monthDay"}, func(a *accountArguments) []any { return results(impl.DayOf(a.year, a.month, a.monthDay)) }},
		{"DateOf", []string{"number"}, func(a *accountArguments) []any { return results(impl.DateOf(a.number)) }},
		{"DaysBetween", []string{"kind", "from", "to"}, func(a *accountArguments) []any { return results(impl.DaysBetween(a.kind, a.from, a.to)) }},
		{"InterestOf", []string{"cents", "rate", "kind", "from", "to"}, func(a *accountArguments) []any {
			return results(impl.InterestOf(a.cents, a.rate, a.kind, a.from, a.to))
		}},
		{"InterestByRates", []string{"cents", "rateDays", "rates", "kind", "from", "to"}, func(a *accountArguments) []any {
			return results(impl.InterestByRates(a.cents, a.rateDays, a.rates, a.kind, a.from, a.to))
		}},
		{"PenaltyOf", []string{"cents", "rate", "most", "from", "to"}, func(a *accountArguments) []any {
			return results(impl.PenaltyOf(a.cents, a.rate, a.most, a.from, a.to))
		}},
		{"LoanTable", []string{"tableCents", "tableRate", "payment", "table"}, func(a *accountArguments) []any {
			return results(impl.LoanTable(a.tableCents, a.tableRate, a.payment, a.table))
		}},
		{"LoanPayment", []string{"loan", "loanRate", "terms"}, func(a *accountArguments) []any { return results(impl.LoanPayment(a.loan, a.loanRate, a.terms)) }},
		{"LoanCount", []string{"loan", "loanRate", "payment"}, func(a *accountArguments) []any { return results(impl.LoanCount(a.loan, a.loanRate, a.payment)) }},
	}
}

// goodAccounts has arguments for which every function of chapter 3 succeeds.
func goodAccounts() *accountArguments {
	return &accountArguments{
		ledger: ledgerOf(1, 0, 1, 50, 3, 2, 0, 70), day: 2, place: 1, undoDay: 5,
		balances: []int64{-5, 2, 3}, days: []int64{3, 0, 3}, workers: 2,
		debts: debtsOf(5, 0, 30, 2, 1, 20), payCents: 35, payKind: 1,
		yields: []int64{10, -15, 8}, back: 1, on: 1,
		cents: 1000, weights: []int64{1, 0, 2},
		signed: -5, by: 1, of: 2, roundKind: 2,
		year: 2004, month: 2, monthDay: 29, number: 366,
		kind: 2, from: 10, to: 100, rate: 365, most: 250,
		rateDays: []int64{5, 50, 300}, rates: []int64{365, 730, 100},
		parts: 3, loan: 1000, loanRate: 100, payment: 334, terms: 3,
		tableCents: 1000, tableRate: 50, table: 4,
		a: []int64{5, 5, 7}, b: []int64{5, -8},
	}
}

// spoiledAccounts has for each argument changes by which it is not as it must be.
func spoiledAccounts() map[string][]func(*accountArguments) {
	all := spoiledAccountInts()
	long := func(count int) []int64 { return make([]int64, count) }
	const most = impl.MaxSums
	ledger := func(a *accountArguments) *[]impl.Entry { return &a.ledger }
	debts := func(a *accountArguments) *[]impl.Debt { return &a.debts }
	balances := func(a *accountArguments) *[]int64 { return &a.balances }
	days := func(a *accountArguments) *[]int64 { return &a.days }
	yields := func(a *accountArguments) *[]int64 { return &a.yields }
	weights := func(a *accountArguments) *[]int64 { return &a.weights }
	rateDays := func(a *accountArguments) *[]int64 { return &a.rateDays }
	rates := func(a *accountArguments) *[]int64 { return &a.rates }
	all["ledger"] = spoiledList(ledger, badLedgers()...)
	all["debts"] = spoiledList(debts, badDebts()...)
	all["balances"] = spoiledNone(balances, long(impl.MaxAccounts+1), []int64{1}, []int64{-1}, []int64{5, -4, 0},
		[]int64{most + 1, -most - 1}, []int64{-most - 1, most, 1}, []int64{math.MinInt64, math.MinInt64}, []int64{math.MaxInt64, math.MinInt64, 1})
	all["days"] = spoiledList(days, long(17), []int64{-1}, []int64{0, 5, lastDay + 1}, []int64{math.MinInt64}, []int64{3, math.MaxInt64})
	all["yields"] = spoiledNone(yields, long(impl.MaxParts+1), []int64{most + 1}, []int64{5, -most - 1}, []int64{math.MinInt64}, []int64{0, math.MaxInt64})
	all["weights"] = spoiledNone(weights, slices.Repeat([]int64{1}, impl.MaxParts+1), []int64{0}, long(impl.MaxParts), []int64{-1, 2},
		[]int64{1, -1, 1}, []int64{most + 1}, []int64{math.MaxInt64, math.MaxInt64, 2}, []int64{5, math.MinInt64})
	all["rateDays"] = spoiledNone(rateDays, []int64{11, 50, 300}, []int64{5, 5, 300}, []int64{5, 300, 300}, []int64{5, 50, 49}, []int64{-1, 50, 300},
		[]int64{5, 50, lastDay + 1}, []int64{5, 50}, []int64{5, 50, 60, 70}, []int64{5, 50, math.MaxInt64}, []int64{math.MinInt64, 50, 60})
	all["rates"] = spoiledNone(rates, []int64{1, 2}, []int64{1, 2, 3, 4}, []int64{-1, 2, 3}, []int64{1, 2, -1}, []int64{1, 100001, 3},
		[]int64{1, 2, 100001}, []int64{1, 2, math.MaxInt64}, []int64{math.MinInt64, 2, 3})
	unmatched := [][]int64{long(impl.MaxEntries + 1), {most + 1}, {5, -most - 1}, {math.MinInt64}, {5, math.MaxInt64}}
	all["a"] = spoiledList(func(a *accountArguments) *[]int64 { return &a.a }, unmatched...)
	all["b"] = spoiledList(func(a *accountArguments) *[]int64 { return &a.b }, unmatched...)
	return all
}

func spoiledAccountInts() map[string][]func(*accountArguments) {
	return map[string][]func(*accountArguments){
		"day":        spoiledInt(func(a *accountArguments) *int64 { return &a.day }, 0, lastDay),
		"account":    spoiledInt(func(a *accountArguments) *int64 { return &a.account }, 0, impl.MaxAccounts-1),
		"place":      spoiledInt(func(a *accountArguments) *int64 { return &a.place }, 0, 1),
		"undoDay":    spoiledInt(func(a *accountArguments) *int64 { return &a.undoDay }, 3, lastDay),
		"workers":    spoiledInt(func(a *accountArguments) *int64 { return &a.workers }, 1, impl.MaxWorkers),
		"payCents":   spoiledInt(func(a *accountArguments) *int64 { return &a.payCents }, 0, 1000000000000),
		"payKind":    spoiledInt(func(a *accountArguments) *int64 { return &a.payKind }, 0, 2),
		"back":       spoiledInt(func(a *accountArguments) *int64 { return &a.back }, 0, 3),
		"on":         spoiledInt(func(a *accountArguments) *int64 { return &a.on }, 0, impl.MaxParts),
		"cents":      spoiledInt(func(a *accountArguments) *int64 { return &a.cents }, 0, impl.MaxSums),
		"signed":     spoiledInt(func(a *accountArguments) *int64 { return &a.signed }, -impl.MaxSums, impl.MaxSums),
		"by":         spoiledInt(func(a *accountArguments) *int64 { return &a.by }, 0, 1000000),
		"of":         spoiledInt(func(a *accountArguments) *int64 { return &a.of }, 1, 1000000),
		"roundKind":  spoiledInt(func(a *accountArguments) *int64 { return &a.roundKind }, 0, 2),
		"year":       spoiledInt(func(a *accountArguments) *int64 { return &a.year }, 2000, 2099),
		"month":      spoiledInt(func(a *accountArguments) *int64 { return &a.month }, 1, 12),
		"monthDay":   spoiledInt(func(a *accountArguments) *int64 { return &a.monthDay }, 1, 29),
		"number":     spoiledInt(func(a *accountArguments) *int64 { return &a.number }, 0, lastDay),
		"kind":       spoiledInt(func(a *accountArguments) *int64 { return &a.kind }, 0, 2),
		"from":       spoiledInt(func(a *accountArguments) *int64 { return &a.from }, 0, 100),
		"to":         spoiledInt(func(a *accountArguments) *int64 { return &a.to }, 10, lastDay),
		"rate":       spoiledInt(func(a *accountArguments) *int64 { return &a.rate }, 0, 100000),
		"most":       spoiledInt(func(a *accountArguments) *int64 { return &a.most }, 0, 100000),
		"parts":      spoiledInt(func(a *accountArguments) *int64 { return &a.parts }, 1, impl.MaxTerms),
		"loan":       spoiledInt(func(a *accountArguments) *int64 { return &a.loan }, 0, impl.MaxSums),
		"loanRate":   spoiledInt(func(a *accountArguments) *int64 { return &a.loanRate }, 0, 100000),
		"payment":    spoiledInt(func(a *accountArguments) *int64 { return &a.payment }, 0, impl.MaxSums),
		"terms":      spoiledInt(func(a *accountArguments) *int64 { return &a.terms }, 1, impl.MaxTerms),
		"tableCents": spoiledInt(func(a *accountArguments) *int64 { return &a.tableCents }, 0, impl.MaxSums),
		"tableRate":  spoiledInt(func(a *accountArguments) *int64 { return &a.tableRate }, 0, 100000),
		"table":      spoiledInt(func(a *accountArguments) *int64 { return &a.table }, 1, impl.MaxTerms),
	}
}

// Every function fails for each argument that is not as its section requires,
// with zero values, and succeeds for good ones.
func TestChapter3InvalidArguments(t *testing.T) {
	spoilAll(t, callsOfChapter3(), spoiledAccounts(), goodAccounts)
	// Other calendars and kinds do not mind other arguments.
	for kind := range int64(2) {
		spoilAll(t, callsOfChapter3(), spoiledAccounts(), func() *accountArguments {
			a := goodAccounts()
			a.kind, a.roundKind, a.payKind = kind, kind, 2*kind
			return a
		})
	}
}

// Limits can be reached exactly: every function succeeds at them.
func TestChapter3OutmostArguments(t *testing.T) {
	const most = impl.MaxSums
	last := slices.Repeat([]int64{most}, impl.MaxParts)
	allSucceed(t, callsOfChapter3(), []func(*accountArguments){
		func(a *accountArguments) { a.day, a.account, a.place, a.undoDay, a.workers = 0, 0, 0, 3, 1 },
		func(a *accountArguments) {
			a.day, a.account, a.undoDay, a.workers = lastDay, impl.MaxAccounts-1, lastDay, impl.MaxWorkers
		},
		func(a *accountArguments) {
			a.ledger, a.place = manyEntries(impl.MaxEntries-1), impl.MaxEntries-2
			a.undoDay = 7
		},
		func(a *accountArguments) { a.balances, a.days = []int64{0}, nil },
		func(a *accountArguments) {
			a.balances = slices.Repeat([]int64{most, -most}, impl.MaxAccounts/2)
			a.days = slices.Repeat([]int64{0, lastDay}, 8)
		},
		func(a *accountArguments) { a.debts, a.payCents, a.payKind = debtsOf(0, 0, 0), 0, 2 },
		func(a *accountArguments) {
			a.debts, a.payCents, a.payKind = slices.Repeat(debtsOf(lastDay, 9, most), impl.MaxParts), 1000000000000, 0
		},
		func(a *accountArguments) { a.yields, a.back, a.on = []int64{-most}, 0, 0 },
		func(a *accountArguments) { a.yields, a.back, a.on = last, 3, impl.MaxParts },
		func(a *accountArguments) { a.cents, a.weights, a.parts = 0, []int64{1}, 1 },
		func(a *accountArguments) { a.cents, a.weights, a.parts = most, last, impl.MaxTerms },
		func(a *accountArguments) { a.signed, a.by, a.of, a.roundKind = -most, 0, 1, 0 },
		func(a *accountArguments) { a.signed, a.by, a.of, a.roundKind = most, 1000000, 1000000, 2 },
		func(a *accountArguments) { a.year, a.month, a.monthDay, a.number = 2000, 1, 1, 0 },
		func(a *accountArguments) { a.year, a.month, a.monthDay, a.number = 2099, 12, 31, lastDay },
		func(a *accountArguments) { a.kind, a.from, a.to, a.rate, a.most = 0, 5, 5, 0, 0 },
		func(a *accountArguments) {
			a.kind, a.from, a.to, a.rate, a.most = 2, lastDay, lastDay, 100000, 100000
		},
		func(a *accountArguments) { a.rateDays, a.rates, a.from = []int64{0}, []int64{0}, 0 },
		func(a *accountArguments) {
			a.rateDays, a.rates = []int64{10}, slices.Repeat([]int64{100000}, impl.MaxParts)
			for len(a.rateDays) < impl.MaxParts {
				a.rateDays = append(a.rateDays, lastDay-impl.MaxParts+1+int64(len(a.rateDays)))
			}
		},
		func(a *accountArguments) { a.loan, a.loanRate, a.payment, a.terms = 0, 100000, 0, 1 },
		func(a *accountArguments) { a.loan, a.loanRate, a.payment, a.terms = most, 0, most, impl.MaxTerms },
		func(a *accountArguments) { a.tableCents, a.tableRate, a.table = 0, 100000, impl.MaxTerms },
		func(a *accountArguments) { a.tableCents, a.tableRate, a.table = most, 100000, 1 },
		func(a *accountArguments) { a.a, a.b = nil, slices.Repeat([]int64{most}, impl.MaxEntries) },
		func(a *accountArguments) { a.a, a.b = slices.Repeat([]int64{-most}, impl.MaxEntries), nil },
	}, goodAccounts)
}

func TestChapter3Limits(t *testing.T) {
	isInt(t, "MaxAccounts", impl.MaxAccounts, 12)
	isInt(t, "MaxEntries", impl.MaxEntries, 64)
	isInt(t, "MaxSums", impl.MaxSums, 1000000000)
	isInt(t, "MaxParts", impl.MaxParts, 24)
	isInt(t, "MaxTerms", impl.MaxTerms, 120)
}
