package tests

import (
	"math"
	"math/big"
	"slices"
	"testing"
	"time"

	"loop.example/g01393/impl"
)

const lastDay = 36524 // 31 December 2099

func isList(t *testing.T, what string, got []int64, ok bool, want ...int64) {
	t.Helper()
	if !ok || !slices.Equal(got, want) {
		t.Errorf("%s: got %v %v, want %v", what, got, ok, want)
	}
}

func isTold(t *testing.T, what string, got int64, ok bool, want int64) {
	t.Helper()
	if !ok || got != want {
		t.Errorf("%s: got %d %v, want %d", what, got, ok, want)
	}
}

func isNone(t *testing.T, what string, values []any) {
	t.Helper()
	if !failed(values) {
		t.Errorf("%s: got %v, want zero values", what, values)
	}
}

// below returns a number from 0 to most.
func (g *lcg) below(most int64) int64 {
	return int64((g.next()<<32 | g.next()) % uint64(most+1))
}

// one returns any one of some numbers.
func (g *lcg) one(numbers ...int64) int64 {
	return numbers[g.below(int64(len(numbers)-1))]
}

// list returns 1 to count numbers from 0 to most.
func (g *lcg) list(count, most int64) []int64 {
	var all []int64
	for range 1 + g.below(count-1) {
		all = append(all, g.below(most))
	}
	return all
}

func sumOf(list []int64) int64 {
	sum := int64(0)
	for _, n := range list {
		sum += n
	}
	return sum
}

// ledgerOf returns the entries that have Day, Debit, Credit and Cents one behind the other.
func ledgerOf(numbers ...int64) []impl.Entry {
	var list []impl.Entry
	for i := 0; i < len(numbers); i += 4 {
		list = append(list, impl.Entry{Day: numbers[i], Debit: numbers[i+1], Credit: numbers[i+2], Cents: numbers[i+3]})
	}
	return list
}

// debtsOf returns the debts that have Day, Rank and Cents one behind the other.
func debtsOf(numbers ...int64) []impl.Debt {
	var list []impl.Debt
	for i := 0; i < len(numbers); i += 3 {
		list = append(list, impl.Debt{Day: numbers[i], Rank: numbers[i+1], Cents: numbers[i+2]})
	}
	return list
}

// manyEntries returns entries that are equal, as many as a ledger has at most if count is so.
func manyEntries(count int) []impl.Entry {
	return slices.Repeat(ledgerOf(7, 3, 4, impl.MaxSums), count)
}

// goodLedgers has ledgers of all sizes, with all numbers at their limits.
func goodLedgers() [][]impl.Entry {
	all := [][]impl.Entry{
		nil,
		ledgerOf(0, 0, 1, 1),
		ledgerOf(lastDay, 11, 0, impl.MaxSums),
		ledgerOf(1, 0, 1, 50, 3, 2, 0, 70),
		ledgerOf(0, 0, 11, 5, 0, 11, 0, 5, lastDay, 5, 6, 9, lastDay, 6, 5, 10),
		ledgerOf(4, 1, 2, 3, 4, 2, 3, 3, 4, 3, 1, 3, 4, 1, 2, 1, 5, 2, 1, 100),
		manyEntries(impl.MaxEntries),
		manyEntries(impl.MaxEntries - 1),
	}
	g := lcg(3)
	for range 60 {
		day, most := int64(0), g.one(2, 1000, impl.MaxSums-1)
		var list []impl.Entry
		for range g.below(impl.MaxEntries) {
			day += g.one(0, 0, 1, 30, 560)
			debit := g.below(impl.MaxAccounts - 1)
			credit := (debit + 1 + g.below(impl.MaxAccounts-2)) % impl.MaxAccounts
			list = append(list, impl.Entry{Day: day, Debit: debit, Credit: credit, Cents: 1 + g.below(most)})
		}
		all = append(all, list)
	}
	return all
}

// badLedgers has lists that are no ledgers, each for one reason.
func badLedgers() [][]impl.Entry {
	all := [][]impl.Entry{
		manyEntries(impl.MaxEntries + 1),
		ledgerOf(3, 0, 1, 1, 2, 0, 1, 1),
		ledgerOf(1, 0, 1, 1, 2, 0, 1, 1, 1, 0, 1, 1),
		ledgerOf(5, 2, 2, 1),
		ledgerOf(5, 0, 0, 1),
	}
	for _, n := range []int64{-1, math.MinInt64, math.MaxInt64} {
		all = append(all, ledgerOf(n, 0, 1, 1), ledgerOf(1, n, 1, 1), ledgerOf(1, 0, n, 1), ledgerOf(1, 0, 1, n))
	}
	return append(all, ledgerOf(lastDay+1, 0, 1, 1), ledgerOf(1, 12, 1, 1), ledgerOf(1, 0, 12, 1), ledgerOf(1, 0, 1, 0),
		ledgerOf(1, 0, 1, impl.MaxSums+1), ledgerOf(1, 0, 1, 5, lastDay+1, 0, 1, 5), ledgerOf(1, 0, 1, 5, 1, 0, 1, 0))
}

// slowBalance returns the balance of an account after the first entries of a ledger.
func slowBalance(list []impl.Entry, account int64) int64 {
	balance := int64(0)
	for _, e := range list {
		if e.Debit == account {
			balance += e.Cents
		}
		if e.Credit == account {
			balance -= e.Cents
		}
	}
	return balance
}

// slowBalances returns all balances at the end of a day.
func slowBalances(list []impl.Entry, day int64) []int64 {
	var until []impl.Entry
	for _, e := range list {
		if e.Day <= day {
			until = append(until, e)
		}
	}
	var balances []int64
	for account := range int64(impl.MaxAccounts) {
		balances = append(balances, slowBalance(until, account))
	}
	return balances
}

// goodDebts has debts of all sizes, with equal days and ranks, and with 0 cents.
func goodDebts() [][]impl.Debt {
	all := [][]impl.Debt{
		debtsOf(5, 0, 30, 2, 1, 20),
		debtsOf(0, 0, 0),
		debtsOf(lastDay, 9, impl.MaxSums),
		debtsOf(0, 9, 0, 0, 9, 0),
		debtsOf(7, 3, 10, 7, 3, 10, 7, 3, 10),
		debtsOf(7, 3, 0, 6, 4, 5, 7, 2, 0, 6, 3, 5, 6, 4, 1),
		slices.Repeat(debtsOf(1, 1, impl.MaxSums), impl.MaxParts),
		slices.Repeat(debtsOf(1, 1, impl.MaxSums, 0, 2, impl.MaxSums-1), impl.MaxParts/2),
	}
	g := lcg(5)
	for range 80 {
		days, ranks, most := g.one(0, 2, lastDay), g.one(0, 2, 9), g.one(1, 10, 1000, impl.MaxSums)
		var list []impl.Debt
		for range 1 + g.below(impl.MaxParts-1) {
			list = append(list, impl.Debt{Day: g.below(days), Rank: g.below(ranks), Cents: g.below(most)})
		}
		all = append(all, list)
	}
	return all
}

func badDebts() [][]impl.Debt {
	all := [][]impl.Debt{nil, {}, slices.Repeat(debtsOf(1, 1, 1), impl.MaxParts+1)}
	for _, n := range []int64{-1, math.MinInt64, math.MaxInt64} {
		all = append(all, debtsOf(n, 1, 1), debtsOf(1, n, 1), debtsOf(1, 1, n))
	}
	return append(all, debtsOf(lastDay+1, 1, 1), debtsOf(1, 10, 1), debtsOf(1, 1, impl.MaxSums+1), debtsOf(1, 1, 1, 1, 1, -1), debtsOf(1, 1, 1, 1, -1, 1))
}

// goodWeights has weights of all sizes, some of them 0.
func goodWeights() [][]int64 {
	const most = impl.MaxSums
	all := [][]int64{
		{1}, {most}, {1, 1, 1}, {0, 1}, {1, 0}, {0, 0, 3, 0, 5, 0}, {1, 2, 3, 4, 5, 6}, {3, 3, 1}, {most, most, 1},
		slices.Repeat([]int64{1}, impl.MaxParts), slices.Repeat([]int64{most}, impl.MaxParts),
		slices.Repeat([]int64{0, most - 1, 7}, impl.MaxParts/3), append(make([]int64, impl.MaxParts-1), 1),
	}
	g := lcg(6)
	for range 100 {
		all = append(all, g.weights(impl.MaxParts, g.one(1, 3, 100, impl.MaxSums)))
	}
	return all
}

// weights returns 1 to count weights from 0 to most, the last one greater than 0.
func (g *lcg) weights(count, most int64) []int64 {
	list := []int64{1 + g.below(most-1)}
	for range g.below(count - 1) {
		list = append(list, g.below(most)*g.one(0, 1, 1))
	}
	slices.Reverse(list)
	return list
}

// sums has amounts to split.
func sums() []int64 {
	all := []int64{0, 1, 2, 3, 5, 7, 10, 23, 99, 100, 101, 12345, impl.MaxSums - 1, impl.MaxSums}
	g := lcg(8)
	for range 10 {
		all = append(all, g.below(1000), g.below(impl.MaxSums))
	}
	return all
}

// quotient returns a times b, divided by c, by exact fractions.
func quotient(a, b, c int64) *big.Rat {
	above := new(big.Int).Mul(big.NewInt(a), big.NewInt(b))
	return new(big.Rat).SetFrac(above, big.NewInt(c))
}

// slowNear rounds a fraction, not less than 0, to the nearest integer, the greater one of two.
func slowNear(x *big.Rat) int64 {
	twice := new(big.Int).Add(new(big.Int).Mul(x.Num(), big.NewInt(2)), x.Denom())
	return new(big.Int).Quo(twice, new(big.Int).Mul(x.Denom(), big.NewInt(2))).Int64()
}

// timeOf returns a day by the calendar of the library.
func timeOf(day int64) time.Time {
	return time.Date(2000, 1, 1+int(day), 0, 0, 0, 0, time.UTC)
}

// dayAt returns the day of a date that there is.
func dayAt(year, month, day int) int64 {
	hours := time.Date(year, time.Month(month), day, 0, 0, 0, 0, time.UTC).Sub(timeOf(0)).Hours()
	return int64(hours) / 24
}

// someDays has the first and the last days of all, of leap years and of months, and others.
func someDays() []int64 {
	all := []int64{0, 1, lastDay - 1, lastDay}
	for _, year := range []int{2000, 2001, 2004, 2023, 2096, 2099} {
		for month := 1; month <= 12; month++ {
			first := dayAt(year, month, 1)
			for day := first - 3; day <= first+1; day++ {
				all = append(all, max(0, day))
			}
		}
		all = append(all, dayAt(year, 2, 14), dayAt(year, 7, 15))
	}
	slices.Sort(all)
	return slices.Compact(all)
}
