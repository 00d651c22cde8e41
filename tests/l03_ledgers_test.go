package tests

import (
	"fmt"
	"math"
	"slices"
	"testing"

	"loop.example/g01393/impl"
)

func TestAreEntries(t *testing.T) {
	for _, list := range goodLedgers() {
		isTrue(t, fmt.Sprintf("AreEntries(%v)", list), impl.AreEntries(list))
	}
	for _, list := range badLedgers() {
		isFalse(t, fmt.Sprintf("AreEntries(%v)", list), impl.AreEntries(list))
	}
	isTrue(t, "AreEntries of an empty list", impl.AreEntries([]impl.Entry{}))
}

func TestSameEntries(t *testing.T) {
	all := slices.Concat(goodLedgers(), badLedgers())
	for i, a := range all {
		for j, b := range all {
			want := fmt.Sprint(a) == fmt.Sprint(b)
			if got := impl.SameEntries(a, b); got != want {
				t.Errorf("SameEntries of %d and %d: got %v, want %v", i, j, got, want)
			}
		}
		isTrue(t, "SameEntries of a copy", impl.SameEntries(a, slices.Clone(a)))
	}
	isTrue(t, "SameEntries(nil, empty)", impl.SameEntries(nil, []impl.Entry{}))
	// One integer that differs is enough, also in lists that are no ledgers.
	base := func() []impl.Entry { return ledgerOf(9, 1, 1, -5, 3, 99, -2, math.MinInt64) }
	isTrue(t, "SameEntries of no ledgers", impl.SameEntries(base(), base()))
	for i := range base() {
		for _, field := range []func(e *impl.Entry) *int64{
			func(e *impl.Entry) *int64 { return &e.Day },
			func(e *impl.Entry) *int64 { return &e.Debit },
			func(e *impl.Entry) *int64 { return &e.Credit },
			func(e *impl.Entry) *int64 { return &e.Cents },
		} {
			other := base()
			*field(&other[i])++
			isFalse(t, "SameEntries with one change", impl.SameEntries(base(), other))
			isFalse(t, "SameEntries with one change", impl.SameEntries(other, base()))
		}
		isFalse(t, "SameEntries of a part", impl.SameEntries(base(), base()[:i]))
		isFalse(t, "SameEntries of a whole", impl.SameEntries(base()[:i], base()))
	}
}

func TestBalancesAt(t *testing.T) {
	list := ledgerOf(1, 0, 1, 50, 3, 2, 0, 70, 3, 11, 2, 5, 4, 0, 11, 9)
	for _, c := range []struct {
		day  int64
		want []int64
	}{
		{0, []int64{0, 0, 0, 0, 0, 0, 0, 0, 0, 0, 0, 0}},
		{1, []int64{50, -50, 0, 0, 0, 0, 0, 0, 0, 0, 0, 0}},
		{2, []int64{50, -50, 0, 0, 0, 0, 0, 0, 0, 0, 0, 0}},
		{3, []int64{-20, -50, 65, 0, 0, 0, 0, 0, 0, 0, 0, 5}},
		{4, []int64{-11, -50, 65, 0, 0, 0, 0, 0, 0, 0, 0, -4}},
		{lastDay, []int64{-11, -50, 65, 0, 0, 0, 0, 0, 0, 0, 0, -4}},
	} {
		got, ok := impl.BalancesAt(list, c.day)
		isList(t, fmt.Sprintf("BalancesAt day %d", c.day), got, ok, c.want...)
	}
	for _, list := range goodLedgers() {
		for _, day := range []int64{0, 1, 3, 4, 6, 7, 300, lastDay} {
			got, ok := impl.BalancesAt(list, day)
			isList(t, fmt.Sprintf("BalancesAt(%v, %d)", list, day), got, ok, slowBalances(list, day)...)
		}
	}
	got, ok := impl.BalancesAt(manyEntries(impl.MaxEntries), 7)
	isList(t, "BalancesAt beyond MaxSums", got, ok, 0, 0, 0, 64000000000, -64000000000, 0, 0, 0, 0, 0, 0, 0)
}

func TestFirstShort(t *testing.T) {
	list := ledgerOf(1, 0, 1, 50, 3, 2, 0, 50, 3, 4, 0, 1, 3, 0, 4, 9)
	for account, want := range []int64{2, 0, -1, -1, 3, -1, -1, -1, -1, -1, -1, -1} {
		got, ok := impl.FirstShort(list, int64(account))
		isTold(t, fmt.Sprintf("FirstShort of account %d", account), got, ok, want)
	}
	for _, list := range goodLedgers() {
		for account := range int64(impl.MaxAccounts) {
			want := int64(-1)
			for i := len(list); i > 0; i-- {
				if slowBalance(list[:i], account) < 0 {
					want = int64(i - 1)
				}
			}
			got, ok := impl.FirstShort(list, account)
			isTold(t, fmt.Sprintf("FirstShort(%v, %d)", list, account), got, ok, want)
		}
	}
}

func TestUndoEntry(t *testing.T) {
	list := ledgerOf(1, 0, 1, 50, 3, 2, 0, 70)
	for _, c := range []struct {
		i, day int64
		want   []impl.Entry
	}{
		{0, 3, ledgerOf(1, 0, 1, 50, 3, 2, 0, 70, 3, 1, 0, 50)},
		{1, 5, ledgerOf(1, 0, 1, 50, 3, 2, 0, 70, 5, 0, 2, 70)},
		{1, lastDay, ledgerOf(1, 0, 1, 50, 3, 2, 0, 70, lastDay, 0, 2, 70)},
	} {
		got, ok := impl.UndoEntry(list, c.i, c.day)
		if !ok || !slices.Equal(got, c.want) {
			t.Errorf("UndoEntry(%d, %d): got %v %v, want %v", c.i, c.day, got, ok, c.want)
		}
	}
	isNone(t, "UndoEntry before the last day", results(impl.UndoEntry(list, 0, 2)))
	isNone(t, "UndoEntry behind the last day of all", results(impl.UndoEntry(list, 0, lastDay+1)))
	isNone(t, "UndoEntry of an empty ledger", results(impl.UndoEntry(nil, 0, 5)))
	isNone(t, "UndoEntry without room", results(impl.UndoEntry(manyEntries(impl.MaxEntries), 0, 7)))
	full, ok := impl.UndoEntry(manyEntries(impl.MaxEntries-1), impl.MaxEntries-2, 7)
	if !ok || len(full) != impl.MaxEntries || full[impl.MaxEntries-1] != ledgerOf(7, 4, 3, impl.MaxSums)[0] {
		t.Errorf("UndoEntry with room for one: got %v %v", full, ok)
	}
}

func TestSettleAccounts(t *testing.T) {
	const most = impl.MaxSums
	for _, c := range []struct {
		balances, want []int64
	}{
		{[]int64{0}, nil},
		{make([]int64, impl.MaxAccounts), nil},
		{[]int64{-5, 2, 3}, []int64{0, 2, 3, 0, 1, 2}},
		{[]int64{5, -5}, []int64{1, 0, 5}},
		{[]int64{-5, -5, 5, 5}, []int64{0, 2, 5, 1, 3, 5}},
		{[]int64{5, 5, -5, -5}, []int64{2, 0, 5, 3, 1, 5}},
		{[]int64{-3, -7, 10, 0}, []int64{1, 2, 7, 0, 2, 3}},
		{[]int64{10, -3, 0, -7}, []int64{3, 0, 7, 1, 0, 3}},
		{[]int64{-4, 6, -4, 2}, []int64{0, 1, 4, 2, 1, 2, 2, 3, 2}},
		{[]int64{-6, 3, 3}, []int64{0, 1, 3, 0, 2, 3}},
		{[]int64{most, -most}, []int64{1, 0, most}},
		{[]int64{0, -1, most, 1 - most}, []int64{3, 2, most - 1, 1, 2, 1}},
	} {
		got, ok := impl.SettleAccounts(c.balances)
		isList(t, fmt.Sprintf("SettleAccounts(%v)", c.balances), got, ok, c.want...)
	}
}

// slowGreatest returns the first account that is the greatest by a sign, by pairs.
func slowGreatest(balances []int64, sign int64) int {
	for i, one := range balances {
		greatest := true
		for j, other := range balances {
			if sign*other > sign*one || j < i && other == one {
				greatest = false
			}
		}
		if greatest {
			return i
		}
	}
	return -1
}

func TestSettleAccountsInOrder(t *testing.T) {
	g := lcg(21)
	for range 500 {
		balances := randomBalances(&g)
		got, ok := impl.SettleAccounts(balances)
		isTrue(t, fmt.Sprintf("SettleAccounts(%v)", balances), ok && len(got)%3 == 0)
		rest := slices.Clone(balances)
		for i := 0; i+2 < len(got); i += 3 {
			payer, taker := slowGreatest(rest, -1), slowGreatest(rest, 1)
			cents := min(max(rest[payer], -rest[payer]), max(rest[taker], -rest[taker]))
			if !slices.Equal(got[i:i+3], []int64{int64(payer), int64(taker), cents}) || cents == 0 {
				t.Fatalf("SettleAccounts(%v): got %v, but want %d %d %d at %d", balances, got, payer, taker, cents, i)
			}
			rest[payer] += cents
			rest[taker] -= cents
		}
		isList(t, fmt.Sprintf("balances %v when they are settled", balances), rest, true, make([]int64, len(rest))...)
	}
}

// randomBalances returns balances with the sum 0.
func randomBalances(g *lcg) []int64 {
	most := g.one(1, 3, 20, impl.MaxSums/impl.MaxAccounts)
	list := []int64{0}
	for range g.below(impl.MaxAccounts - 1) {
		n := g.below(2*most) - most
		list = append(list, n)
		list[0] -= n
	}
	i := g.below(int64(len(list)) - 1)
	list[0], list[i] = list[i], list[0]
	return list
}

func TestBalancesShared(t *testing.T) {
	list := ledgerOf(1, 0, 1, 50, 3, 2, 0, 70)
	for workers := int64(1); workers <= impl.MaxWorkers; workers++ {
		got, ok := impl.BalancesShared(list, []int64{0, 3, 2, 1, lastDay, 3}, workers)
		isList(t, "BalancesShared", got, ok, 0, 70, 50, 50, 70, 70)
		got, ok = impl.BalancesShared(list, nil, workers)
		isList(t, "BalancesShared without days", got, ok)
		got, ok = impl.BalancesShared(nil, []int64{5}, workers)
		isList(t, "BalancesShared of an empty ledger", got, ok, 0)
	}
}

// Any number of workers makes the same.
func TestBalancesSharedByAnyWorkers(t *testing.T) {
	g := lcg(22)
	for _, list := range goodLedgers() {
		for count := range 17 {
			var days, want []int64
			for range count {
				days = append(days, g.one(0, 1, 3, 7, 40, g.below(lastDay), lastDay))
				sum := int64(0)
				for _, balance := range slowBalances(list, days[len(days)-1]) {
					sum += max(0, balance)
				}
				want = append(want, sum)
			}
			for workers := int64(1); workers <= impl.MaxWorkers; workers++ {
				got, ok := impl.BalancesShared(list, days, workers)
				isList(t, fmt.Sprintf("BalancesShared(%v, %v, %d)", list, days, workers), got, ok, want...)
			}
		}
	}
}

func TestMatchSums(t *testing.T) {
	const most = impl.MaxSums
	many := slices.Repeat([]int64{-most}, impl.MaxEntries)
	for _, c := range []struct {
		a, b, openA, openB []int64
	}{
		{nil, nil, nil, nil},
		{[]int64{5, 5, 7}, []int64{5, 8}, []int64{1, 2}, []int64{1}},
		{[]int64{5, 8}, []int64{5, 5, 7}, []int64{1}, []int64{1, 2}},
		{[]int64{5}, nil, []int64{0}, nil},
		{nil, []int64{5, -5}, nil, []int64{0, 1}},
		{[]int64{5, 5}, []int64{5, 5}, nil, nil},
		{[]int64{0, 0, -1}, []int64{-1, 0, 0, 0}, nil, []int64{3}},
		{[]int64{5, -5}, []int64{-5, 5}, nil, nil},
		{[]int64{1, 2, 3, 2, 1}, []int64{2, 2, 2, 1}, []int64{2, 4}, []int64{2}},
		{[]int64{most, -most}, []int64{-most, most - 1}, []int64{0}, []int64{1}},
		{many, many, nil, nil},
		{many[:3], many[:5], nil, []int64{3, 4}},
		{many[:5], many[:3], []int64{3, 4}, nil},
	} {
		openA, openB, ok := impl.MatchSums(c.a, c.b)
		what := fmt.Sprintf("MatchSums(%v, %v)", c.a, c.b)
		isList(t, what, openA, ok, c.openA...)
		isList(t, what, openB, ok, c.openB...)
	}
}

func TestMatchSumsOneByOne(t *testing.T) {
	g := lcg(23)
	for range 1000 {
		var a, b []int64
		most := g.one(0, 1, 3, 10, impl.MaxSums)
		for range g.below(impl.MaxEntries) {
			a = append(a, g.below(2*most)-most)
		}
		for range g.below(impl.MaxEntries) {
			b = append(b, g.below(2*most)-most)
		}
		var wantA, wantB []int64
		taken := map[int]bool{}
		for i := range a {
			j := 0
			for j < len(b) && (taken[j] || b[j] != a[i]) {
				j++
			}
			if j == len(b) {
				wantA = append(wantA, int64(i))
			}
			taken[j] = true
		}
		for j := range b {
			if !taken[j] {
				wantB = append(wantB, int64(j))
			}
		}
		openA, openB, ok := impl.MatchSums(a, b)
		what := fmt.Sprintf("MatchSums(%v, %v)", a, b)
		isList(t, what, openA, ok, wantA...)
		isList(t, what, openB, ok, wantB...)
	}
}
