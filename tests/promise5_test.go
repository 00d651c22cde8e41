package tests

import (
	"fmt"
	"slices"
	"testing"

	"loop.example/g01393/impl"
)

// Promise 5: parts that are rounded make the whole, and shares give all away.

// The dues of a chain make the due of its last sale, wherever it ends.
func TestPromise5ChainsMakeTheLastDue(t *testing.T) {
	g := lcg(101)
	for range 2000 {
		sales := g.list(impl.MaxStages, g.one(10, 30000, impl.MaxCents))
		rate, round := g.one(0, 1, 700, 1900, 9999, 10000, g.below(10000)), g.below(3)
		dues, ok := impl.ChainDues(sales, rate, round)
		what := fmt.Sprintf("ChainDues(%v, %d, %d): got %v", sales, rate, round, dues)
		isTrue(t, what, ok && len(dues) == len(sales))
		for i, sale := range sales {
			isInt(t, fmt.Sprintf("%s, the first %d", what, i+1), sumOf(dues[:i+1]), slowDueByRate(sale, rate, round))
		}
	}
}

// Dues of lines make those of their rates, where each line has its own due
// rounded down, or 1 more.
func TestPromise5LinesMakeTheDuesOfRates(t *testing.T) {
	for _, b := range goodBills() {
		for round := range int64(4) {
			spread, one := impl.SpreadDues(b.lines, b.kinds, b.rates, round)
			totals, two := impl.RateDues(b.lines, b.kinds, b.rates, round)
			down, three := impl.LineDues(b.lines, b.kinds, b.rates, 0)
			up, four := impl.LineDues(b.lines, b.kinds, b.rates, 3)
			what := fmt.Sprintf("SpreadDues(%v, %d): got %v", b, round, spread)
			isTrue(t, what, one && two && three && four && len(spread) == len(b.lines) && len(totals) == len(b.rates))
			sums := make([]int64, len(b.rates))
			for i, due := range spread {
				sums[b.kinds[i]] += due
				isTrue(t, what, due == down[i] || due == up[i])
			}
			isList(t, "sums of "+what, sums, true, totals...)
		}
	}
}

// Each share is the exact one, rounded down or up, and all of them give all away.
func TestPromise5LargestRestsGiveAllAway(t *testing.T) {
	for _, weights := range goodPlaces() {
		sum := sumOf(weights)
		for _, total := range goodTotals() {
			shares, ok := impl.LargestRests(total, weights)
			what := fmt.Sprintf("LargestRests(%d, %v): got %v", total, weights, shares)
			isTrue(t, what, ok && len(shares) == len(weights))
			isInt(t, "the sum of "+what, sumOf(shares), total)
			for i, weight := range weights {
				exact := quotient(total, weight, sum)
				isTrue(t, what, shares[i] == slowRound(exact, 0) || shares[i] == slowRound(exact, 3))
			}
		}
	}
}

// All units are given away, one more never changes what others have, and
// equal weights have the same, but for one unit.
func TestPromise5DivisorSharesGiveAllAway(t *testing.T) {
	for _, weights := range goodPlaces() {
		for _, odd := range []bool{false, true} {
			before := make([]int64, len(weights))
			for _, total := range []int64{0, 1, 2, 3, 4, 5, 6, 7, 50, 51, 99, 100, 999, 1000} {
				shares, ok := impl.DivisorShares(total, weights, odd)
				what := fmt.Sprintf("DivisorShares(%d, %v, %v): got %v", total, weights, odd, shares)
				isTrue(t, what, ok && len(shares) == len(weights))
				isInt(t, "the sum of "+what, sumOf(shares), total)
				for i, weight := range weights {
					isTrue(t, what, shares[i] >= before[i] && (weight > 0 || shares[i] == 0))
					first := slices.Index(weights, weight)
					isTrue(t, what, shares[first]-shares[i] == 0 || shares[first]-shares[i] == 1)
				}
				before = shares
			}
		}
	}
}

// The numbers of all places make the one for all places together.
func TestPromise5FactorsMakeTheWhole(t *testing.T) {
	for _, f := range goodFactors() {
		shares, whole, ok := impl.FactorWeights(f.lists, f.mixes)
		what := fmt.Sprintf("FactorWeights(%v): got %v", f, shares)
		isTrue(t, what, ok && len(shares) == len(f.lists[0]) && slices.Min(shares) >= 0)
		isInt(t, "the sum of "+what, sumOf(shares), whole)
	}
}

// The first shares, which workers tell, make the whole with the other ones.
func TestPromise5WorkersGiveAllAway(t *testing.T) {
	totals := goodTotals()[:16]
	for _, weights := range goodPlaces() {
		for workers := int64(1); workers <= impl.MaxWorkers; workers++ {
			got, ok := impl.SharesShared(totals, weights, workers)
			what := fmt.Sprintf("SharesShared(%v, %v, %d): got %v", totals, weights, workers, got)
			isTrue(t, what, ok && len(got) == len(totals))
			for i, total := range totals {
				shares, _ := impl.LargestRests(total, weights)
				isInt(t, what, got[i]+sumOf(shares[1:]), total)
			}
		}
	}
}
