package tests

import (
	"fmt"
	"math/big"
	"slices"
	"sort"
	"testing"

	"loop.example/g01393/impl"
)

func TestAreDebts(t *testing.T) {
	for _, list := range goodDebts() {
		isTrue(t, fmt.Sprintf("AreDebts(%v)", list), impl.AreDebts(list))
	}
	for _, list := range badDebts() {
		isFalse(t, fmt.Sprintf("AreDebts(%v)", list), impl.AreDebts(list))
	}
}

func TestPayDebts(t *testing.T) {
	const most = impl.MaxSums
	two := debtsOf(5, 0, 30, 2, 1, 20)
	ranked := debtsOf(9, 2, 10, 8, 1, 10, 7, 1, 10, 7, 1, 10, 7, 0, 0)
	great := debtsOf(0, 0, most, 0, 0, most, 0, 0, 1)
	whole := slices.Repeat(debtsOf(3, 3, most), impl.MaxParts)
	whole24 := slices.Repeat([]int64{most}, impl.MaxParts)
	less24 := append(slices.Repeat([]int64{most}, impl.MaxParts-1), most-1)
	for _, c := range []struct {
		list        []impl.Debt
		cents, kind int64
		want        []int64
		left        int64
	}{
		{two, 35, 0, []int64{15, 20}, 0},
		{two, 35, 1, []int64{30, 5}, 0},
		{two, 25, 2, []int64{15, 10}, 0},
		{two, 0, 0, []int64{0, 0}, 0},
		{two, 0, 1, []int64{0, 0}, 0},
		{two, 0, 2, []int64{0, 0}, 0},
		{two, 19, 0, []int64{0, 19}, 0},
		{two, 20, 0, []int64{0, 20}, 0},
		{two, 49, 2, []int64{29, 20}, 0},
		{two, 50, 0, []int64{30, 20}, 0},
		{two, 50, 2, []int64{30, 20}, 0},
		{two, 51, 1, []int64{30, 20}, 1},
		{two, 1000000000000, 2, []int64{30, 20}, 999999999950},
		{ranked, 25, 0, []int64{0, 5, 10, 10, 0}, 0},
		{ranked, 35, 0, []int64{5, 10, 10, 10, 0}, 0},
		{ranked, 25, 1, []int64{0, 5, 10, 10, 0}, 0},
		{ranked, 15, 1, []int64{0, 0, 10, 5, 0}, 0},
		{ranked, 10, 2, []int64{3, 3, 2, 2, 0}, 0},
		{debtsOf(0, 0, 0), 7, 0, []int64{0}, 7},
		{debtsOf(0, 0, 0, 3, 3, 0), 7, 1, []int64{0, 0}, 7},
		{debtsOf(0, 0, 0, 3, 3, 0), 7, 2, []int64{0, 0}, 7},
		{debtsOf(0, 0, 0, 3, 3, 0), 0, 2, []int64{0, 0}, 0},
		{great, 2*most + 1, 2, []int64{most, most, 1}, 0},
		{great, 2 * most, 2, []int64{most, most - 1, 1}, 0},
		{great, 2*most - 1, 2, []int64{most - 1, most - 1, 1}, 0},
		{great, most, 2, []int64{most / 2, most / 2, 0}, 0},
		{whole, impl.MaxParts*most - 1, 0, less24, 0},
		{whole, impl.MaxParts*most - 1, 1, less24, 0},
		{whole, impl.MaxParts*most - 1, 2, less24, 0},
		{whole, impl.MaxParts * most, 2, whole24, 0},
		{whole, 1000000000000, 1, whole24, 976000000000},
	} {
		paid, left, ok := impl.PayDebts(c.list, c.cents, c.kind)
		what := fmt.Sprintf("PayDebts(%v, %d, %d)", c.list, c.cents, c.kind)
		isList(t, what, paid, ok, c.want...)
		isInt(t, what, left, c.left)
	}
}

// slowPaid pays debts that are sorted, or by exact parts.
func slowPaid(list []impl.Debt, cents, kind int64) []int64 {
	paid := make([]int64, len(list))
	order := make([]int, len(list))
	sum := int64(0)
	for i, d := range list {
		order[i] = i
		sum += d.Cents
	}
	if kind == 2 && cents < sum {
		var weights []int64
		for _, d := range list {
			weights = append(weights, d.Cents)
		}
		return slowSplit(cents, weights)
	}
	sort.SliceStable(order, func(i, j int) bool {
		a, b := list[order[i]], list[order[j]]
		if kind == 1 && a.Rank != b.Rank {
			return a.Rank < b.Rank
		}
		return a.Day < b.Day
	})
	for _, i := range order {
		paid[i] = list[i].Cents
		if paid[i] > cents {
			paid[i] = cents
		}
		cents -= paid[i]
	}
	return paid
}

// slowSplit splits cents by sorting the exact fractions that are left.
func slowSplit(cents int64, weights []int64) []int64 {
	sum := sumOf(weights)
	parts := make([]int64, len(weights))
	order := make([]int, len(weights))
	rests := make([]*big.Rat, len(weights))
	left := cents
	for i, weight := range weights {
		whole := quotient(cents, weight, sum)
		parts[i] = new(big.Int).Quo(whole.Num(), whole.Denom()).Int64()
		rests[i] = whole.Sub(whole, big.NewRat(parts[i], 1))
		order[i] = i
		left -= parts[i]
	}
	sort.SliceStable(order, func(i, j int) bool { return rests[order[i]].Cmp(rests[order[j]]) > 0 })
	for _, i := range order[:left] {
		parts[i]++
	}
	return parts
}

func TestPayDebtsOfAllKinds(t *testing.T) {
	g := lcg(31)
	for _, list := range goodDebts() {
		sum := int64(0)
		for _, d := range list {
			sum += d.Cents
		}
		for _, cents := range []int64{0, 1, sum / 3, sum / 2, max(0, sum-1), sum, sum + 1, g.below(sum), g.below(sum), 1000000000000} {
			for kind := range int64(3) {
				paid, left, ok := impl.PayDebts(list, cents, kind)
				what := fmt.Sprintf("PayDebts(%v, %d, %d)", list, cents, kind)
				isList(t, what, paid, ok, slowPaid(list, cents, kind)...)
				isInt(t, what, left, max(0, cents-sum))
			}
		}
	}
}

func TestCarryLosses(t *testing.T) {
	const most = impl.MaxSums
	for _, c := range []struct {
		results       []int64
		back, on      int64
		gains, losses []int64
	}{
		{[]int64{10, -15, 8}, 1, 1, []int64{0, 0, 3}, []int64{0, 0, 0}},
		{[]int64{10, -15, 8}, 0, 0, []int64{10, 0, 8}, []int64{0, 15, 0}},
		{[]int64{10, -15, 8}, 1, 0, []int64{0, 0, 8}, []int64{0, 5, 0}},
		{[]int64{10, -15, 8}, 0, 1, []int64{10, 0, 0}, []int64{0, 7, 0}},
		{[]int64{10, -5, 8}, 3, 24, []int64{5, 0, 8}, []int64{0, 0, 0}},
		{[]int64{0}, 3, 24, []int64{0}, []int64{0}},
		{[]int64{7}, 3, 24, []int64{7}, []int64{0}},
		{[]int64{-7}, 3, 24, []int64{0}, []int64{7}},
		// The earliest one of the years before comes first, but not one too early.
		{[]int64{4, 4, 4, 4, -6}, 3, 0, []int64{4, 0, 2, 4, 0}, []int64{0, 0, 0, 0, 0}},
		{[]int64{4, 4, 4, 4, -6}, 1, 0, []int64{4, 4, 4, 0, 0}, []int64{0, 0, 0, 0, 2}},
		{[]int64{4, 4, 4, 4, -14}, 3, 0, []int64{4, 0, 0, 0, 0}, []int64{0, 0, 0, 0, 2}},
		// Those behind come after all of those before.
		{[]int64{4, 4, -9, 4, 4}, 2, 1, []int64{0, 0, 0, 3, 4}, []int64{0, 0, 0, 0, 0}},
		{[]int64{4, 4, -20, 4, 4}, 2, 2, []int64{0, 0, 0, 0, 0}, []int64{0, 0, 4, 0, 0}},
		{[]int64{-9, 0, 4, 4}, 3, 2, []int64{0, 0, 0, 4}, []int64{5, 0, 0, 0}},
		// Earlier years' losses are used before, also where later ones are nearer.
		{[]int64{-5, -5, 7}, 0, 2, []int64{0, 0, 0}, []int64{0, 3, 0}},
		{[]int64{-5, 8, -5}, 1, 1, []int64{0, 0, 0}, []int64{0, 0, 2}},
		{[]int64{-5, -5, 7, 1}, 0, 2, []int64{0, 0, 0, 0}, []int64{0, 2, 0, 0}},
		{[]int64{9, -5, -5, 7}, 3, 24, []int64{0, 0, 0, 6}, []int64{0, 0, 0, 0}},
		{[]int64{most, -most}, 1, 0, []int64{0, 0}, []int64{0, 0}},
		{[]int64{-most, most}, 0, 1, []int64{0, 0}, []int64{0, 0}},
		{[]int64{-most, most - 1}, 3, 24, []int64{0, 0}, []int64{1, 0}},
	} {
		gains, losses, ok := impl.CarryLosses(c.results, c.back, c.on)
		what := fmt.Sprintf("CarryLosses(%v, %d, %d)", c.results, c.back, c.on)
		isList(t, what+" gains", gains, ok, c.gains...)
		isList(t, what+" losses", losses, ok, c.losses...)
	}
	// A loss of the first of MaxParts years reaches the last one, MaxParts-1 years on.
	long := make([]int64, impl.MaxParts)
	long[0], long[impl.MaxParts-1] = -5, 5
	gains, losses, ok := impl.CarryLosses(long, 0, impl.MaxParts-1)
	isList(t, "CarryLosses far on", append(gains, losses...), ok, make([]int64, 2*impl.MaxParts)...)
	_, losses, _ = impl.CarryLosses(long, 3, impl.MaxParts-2)
	isInt(t, "CarryLosses not so far on", losses[0], 5)
}

// slowCarried uses losses cent by cent.
func slowCarried(results []int64, back, on int64) ([]int64, []int64) {
	gains, losses := make([]int64, len(results)), make([]int64, len(results))
	for i, n := range results {
		if n > 0 {
			gains[i] = n
		}
	}
	for i, n := range results {
		for ; n < 0; n++ {
			used := false
			for j := range results {
				before := j < i && int64(i-j) <= back
				behind := j > i && int64(j-i) <= on
				if !used && (before || behind) && gains[j] > 0 {
					gains[j]--
					used = true
				}
			}
			if !used {
				losses[i]++
			}
		}
	}
	return gains, losses
}

func TestCarryLossesCentByCent(t *testing.T) {
	g := lcg(32)
	for range 4000 {
		most := g.one(1, 3, 20)
		list := []int64{g.below(2*most) - most}
		for range g.below(impl.MaxParts - 1) {
			list = append(list, g.below(2*most)-most)
		}
		back, on := g.below(3), g.one(0, 1, 2, 5, impl.MaxParts)
		wantGains, wantLosses := slowCarried(list, back, on)
		gains, losses, ok := impl.CarryLosses(list, back, on)
		what := fmt.Sprintf("CarryLosses(%v, %d, %d)", list, back, on)
		isList(t, what+" gains", gains, ok, wantGains...)
		isList(t, what+" losses", losses, ok, wantLosses...)
	}
}
