package tests

import (
	"fmt"
	"slices"
	"testing"

	"loop.example/g01393/impl"
)

// Promise 4: ledgers balance, parts of cents make the whole, and loans are
// paid by what is told, and by no less.

func TestPromise4LedgersBalance(t *testing.T) {
	for _, list := range goodLedgers() {
		for _, day := range someDays() {
			balances, ok := impl.BalancesAt(list, day)
			isTrue(t, fmt.Sprintf("BalancesAt(%v, %d)", list, day), ok && len(balances) == impl.MaxAccounts)
			isInt(t, fmt.Sprintf("the sum of BalancesAt(%v, %d)", list, day), sumOf(balances), 0)
		}
	}
}

// A ledger in which all entries are undone has no balances.
func TestPromise4UndoneEntries(t *testing.T) {
	for _, list := range goodLedgers() {
		if len(list) > impl.MaxEntries/2 {
			list = list[:impl.MaxEntries/2]
		}
		undone := slices.Clone(list)
		for i := range list {
			more, ok := impl.UndoEntry(undone, int64(i), lastDay)
			if !ok || len(more) != len(undone)+1 || !impl.SameEntries(more[:len(undone)], undone) || !impl.AreEntries(more) {
				t.Fatalf("UndoEntry(%v, %d, %d): got %v %v", undone, i, lastDay, more, ok)
			}
			undone = more
		}
		balances, ok := impl.BalancesAt(undone, lastDay)
		isList(t, fmt.Sprintf("balances of %v", undone), balances, ok, make([]int64, impl.MaxAccounts)...)
	}
}

// Payments settle all balances of a ledger, each account paying or being paid.
func TestPromise4SettledAccounts(t *testing.T) {
	g := lcg(71)
	lists := [][]int64{{0}, {impl.MaxSums, -impl.MaxSums}}
	for _, list := range goodLedgers() {
		balances := slowBalances(list, lastDay)
		if slices.Max(balances) <= impl.MaxSums && slices.Min(balances) >= -impl.MaxSums {
			lists = append(lists, balances)
		}
	}
	for range 500 {
		lists = append(lists, randomBalances(&g))
	}
	for _, balances := range lists {
		payments, ok := impl.SettleAccounts(balances)
		what := fmt.Sprintf("SettleAccounts(%v): got %v", balances, payments)
		isTrue(t, what, ok && len(payments) <= 3*(len(balances)-1))
		rest := slices.Clone(balances)
		for i := 0; i < len(payments); i += 3 {
			payer, taker, cents := payments[i], payments[i+1], payments[i+2]
			isTrue(t, what, cents > 0 && -rest[payer] >= cents && rest[taker] >= cents)
			rest[payer] += cents
			rest[taker] -= cents
		}
		isList(t, what, rest, ok, make([]int64, len(rest))...)
	}
}

func TestPromise4PartsMakeTheWhole(t *testing.T) {
	for _, weights := range goodWeights() {
		for _, cents := range sums() {
			split, one := impl.SplitCents(cents, weights)
			turn, two := impl.SplitInTurn(cents, weights)
			what := fmt.Sprintf("(%d, %v): got %v and %v", cents, weights, split, turn)
			isTrue(t, "parts of "+what, one && two && len(split) == len(weights) && len(turn) == len(weights))
			isInt(t, "the sum of SplitCents"+what, sumOf(split), cents)
			isInt(t, "the sum of SplitInTurn"+what, sumOf(turn), cents)
			isTrue(t, "no part below 0"+what, slices.Min(split) >= 0 && slices.Min(turn) >= 0)
			for i, weight := range weights {
				isTrue(t, "nothing for a weight of 0"+what, weight > 0 || split[i] == 0 && turn[i] == 0)
			}
		}
	}
	for _, cents := range sums() {
		for count := int64(1); count <= impl.MaxTerms; count++ {
			parts, ok := impl.EvenParts(cents, count)
			what := fmt.Sprintf("EvenParts(%d, %d): got %v", cents, count, parts)
			isTrue(t, what, ok && len(parts) == int(count) && slices.Max(parts)-slices.Min(parts) <= 1)
			isInt(t, what, sumOf(parts), cents)
		}
	}
}

// What is paid of debts and what is left make the whole, and so do gains and
// losses that are carried.
func TestPromise4NothingIsLost(t *testing.T) {
	g := lcg(72)
	for _, debts := range goodDebts() {
		for _, cents := range append(sums(), 2500000000, 23999999999, 1000000000000) {
			for kind := range int64(3) {
				paid, left, ok := impl.PayDebts(debts, cents, kind)
				what := fmt.Sprintf("PayDebts(%v, %d, %d): got %v %d", debts, cents, kind, paid, left)
				isTrue(t, what, ok && len(paid) == len(debts))
				isInt(t, what, sumOf(paid)+left, cents)
				for i, d := range debts {
					isTrue(t, what, paid[i] >= 0 && paid[i] <= d.Cents && (left == 0 || paid[i] == d.Cents))
				}
			}
		}
	}
	for range 2000 {
		most := g.one(3, 1000, impl.MaxSums)
		list := []int64{g.below(2*most) - most}
		for range g.below(impl.MaxParts - 1) {
			list = append(list, g.below(2*most)-most)
		}
		gains, losses, ok := impl.CarryLosses(list, g.below(3), g.below(impl.MaxParts))
		what := fmt.Sprintf("CarryLosses of %v: got %v %v", list, gains, losses)
		isTrue(t, what, ok && len(gains) == len(list) && len(losses) == len(list))
		isInt(t, what, sumOf(gains)-sumOf(losses), sumOf(list))
		for i, n := range list {
			isTrue(t, what, gains[i] >= 0 && gains[i] <= max(0, n) && losses[i] >= 0 && losses[i] <= max(0, -n))
		}
	}
}

// loans returns cents, rate and count of loans that are paid within the limits.
func loans() [][3]int64 {
	const most = impl.MaxSums
	all := [][3]int64{
		{1, 0, 1}, {1000, 0, 3}, {1000, 1000, 2}, {most, 0, 1}, {most, 0, impl.MaxTerms}, {most, 100, impl.MaxTerms},
		{most / 2, 10000, 1}, {most / 12, 100000, 1}, {most / 12, 100000, impl.MaxTerms}, {most, 9000, impl.MaxTerms}, {1, 100000, impl.MaxTerms},
	}
	g := lcg(73)
	for range 400 {
		all = append(all, [3]int64{1 + g.below(g.one(100, 100000, most/12)), g.below(g.one(100, 1000, 100000)), 1 + g.below(impl.MaxTerms-1)})
	}
	return all
}

// Loans are paid by the payment that is told, and by no less.
func TestPromise4LoansArePaid(t *testing.T) {
	for _, c := range loans() {
		cents, rate, count := c[0], c[1], c[2]
		payment, ok := impl.LoanPayment(cents, rate, count)
		what := fmt.Sprintf("LoanPayment(%d, %d, %d): got %d", cents, rate, count, payment)
		isTrue(t, what, ok && payment > 0 && payment <= impl.MaxSums)
		interests, rests, ok := impl.LoanTable(cents, rate, payment, count)
		if !ok || rests[count-1] != 0 {
			t.Errorf("%s, which does not pay it: %v %v", what, rests, ok)
		}
		_, rests, ok = impl.LoanTable(cents, rate, payment-1, count)
		if ok && rests[count-1] == 0 {
			t.Errorf("%s, but less pays it: %v", what, rests)
		}
		terms, last, ok := impl.LoanCount(cents, rate, payment)
		what = fmt.Sprintf("LoanCount(%d, %d, %d): got %d %d", cents, rate, payment, terms, last)
		isTrue(t, what, ok && terms >= 1 && terms <= count && last > 0 && last <= payment)
		isInt(t, what, (terms-1)*payment+last, cents+sumOf(interests[:terms]))
	}
}

// Loans are paid in the number of terms that is told, and in no less.
func TestPromise4LoansArePaidInTerms(t *testing.T) {
	g := lcg(74)
	for range 1000 {
		cents, rate := 1+g.below(g.one(1000, impl.MaxSums-1)), g.below(g.one(10, 300))
		payment := cents/g.one(1, 2, 10, 60) + 1
		count, last, ok := impl.LoanCount(cents, rate, payment)
		what := fmt.Sprintf("LoanCount(%d, %d, %d): got %d %d %v", cents, rate, payment, count, last, ok)
		_, rests, valid := impl.LoanTable(cents, rate, payment, impl.MaxTerms)
		isTrue(t, what, ok == (valid && rests[impl.MaxTerms-1] == 0))
		if !ok {
			continue
		}
		interests, rests, _ := impl.LoanTable(cents, rate, payment, count)
		isInt(t, what, rests[count-1], 0)
		isTrue(t, what, count == 1 || rests[count-2] > 0)
		isInt(t, what, (count-1)*payment+last, cents+sumOf(interests))
		least, _ := impl.LoanPayment(cents, rate, count)
		isTrue(t, what, least <= payment)
	}
}
