package tests

import (
	"fmt"
	"math/big"
	"testing"

	"loop.example/g01393/impl"
)

func TestLargestRests(t *testing.T) {
	const most = 1000000000
	for _, c := range []struct {
		total         int64
		weights, want []int64
	}{
		{100, []int64{1, 1, 1}, []int64{34, 33, 33}},
		{0, []int64{1, 0, 5}, []int64{0, 0, 0}},
		{7, []int64{1}, []int64{7}},
		{7, []int64{0, 3, 0}, []int64{0, 7, 0}},
		{1, []int64{1, 1}, []int64{1, 0}},
		{1, []int64{1, 2}, []int64{0, 1}},
		{2, []int64{3, 3, 1}, []int64{1, 1, 0}},
		{3, []int64{5, 5, 4}, []int64{1, 1, 1}},
		{11, []int64{1, 2, 3, 4}, []int64{1, 2, 3, 5}},
		{5, []int64{0, 1, 1, 0, 1}, []int64{0, 2, 2, 0, 1}},
		{10, []int64{53, 24, 23}, []int64{5, 3, 2}},
		{25, []int64{1500, 1500, 900, 500, 500, 200}, []int64{7, 7, 4, 3, 3, 1}}, // one more, and one has less
		{26, []int64{1500, 1500, 900, 500, 500, 200}, []int64{8, 8, 5, 2, 2, 1}},
		{most, []int64{most}, []int64{most}},
		{most, []int64{most, most, 1}, []int64{most / 2, most / 2, 0}},
		{most, []int64{1, most}, []int64{1, most - 1}},
		{most - 1, []int64{most, 1}, []int64{most - 2, 1}},
	} {
		got, ok := impl.LargestRests(c.total, c.weights)
		isList(t, fmt.Sprintf("LargestRests(%d, %v)", c.total, c.weights), got, ok, c.want...)
	}
	for _, weights := range goodPlaces() {
		for _, total := range goodTotals() {
			got, ok := impl.LargestRests(total, weights)
			isList(t, fmt.Sprintf("LargestRests(%d, %v)", total, weights), got, ok, slowSplit(total, weights)...)
		}
	}
}

func TestDivisorShares(t *testing.T) {
	const most = 1000000000
	for _, c := range []struct {
		total          int64
		weights        []int64
		odd, otherwise []int64
	}{
		{5, []int64{6, 3}, []int64{3, 2}, []int64{4, 1}},
		{0, []int64{6, 3}, []int64{0, 0}, []int64{0, 0}},
		{1, []int64{1, 1}, []int64{1, 0}, []int64{1, 0}},
		{3, []int64{1, 1}, []int64{2, 1}, []int64{2, 1}},
		{2, []int64{2, 1}, []int64{1, 1}, []int64{2, 0}},   // 2/2 is 1/1
		{2, []int64{1, 2}, []int64{1, 1}, []int64{1, 1}},   // 2/2 is 1/1, but behind it
		{2, []int64{3, 1}, []int64{2, 0}, []int64{2, 0}},   // 3/3 is 1/1
		{2, []int64{1, 3}, []int64{1, 1}, []int64{0, 2}},   // 3/3 is 1/1, but behind it
		{4, []int64{1, 10}, []int64{0, 4}, []int64{0, 4}},  // 10/7
		{6, []int64{1, 10}, []int64{1, 5}, []int64{0, 6}},  // 10/11 is less
		{10, []int64{1, 10}, []int64{1, 9}, []int64{1, 9}}, // 10/10 is 1/1
		{10, []int64{10, 1}, []int64{9, 1}, []int64{10, 0}},
		{3, []int64{0, 5, 0}, []int64{0, 3, 0}, []int64{0, 3, 0}},
		{10, []int64{53, 24, 23}, []int64{6, 2, 2}, []int64{6, 2, 2}},
		{7, []int64{340000, 280000, 160000, 60000, 15000}, []int64{3, 2, 1, 1, 0}, []int64{3, 3, 1, 0, 0}},
		{1000, []int64{most}, []int64{1000}, []int64{1000}},
		{1000, []int64{most, 1}, []int64{1000, 0}, []int64{1000, 0}},
		{1000, []int64{most, most - 1}, []int64{500, 500}, []int64{500, 500}},
		{999, []int64{most - 1, most}, []int64{499, 500}, []int64{499, 500}},
	} {
		odd, one := impl.DivisorShares(c.total, c.weights, true)
		otherwise, two := impl.DivisorShares(c.total, c.weights, false)
		what := fmt.Sprintf("DivisorShares(%d, %v, ", c.total, c.weights)
		isList(t, what+"true)", odd, one, c.odd...)
		isList(t, what+"false)", otherwise, two, c.otherwise...)
	}
	for _, weights := range goodPlaces() {
		for _, total := range []int64{0, 1, 2, 3, 4, 7, 10, 30, 99, 100, 250} {
			for _, odd := range []bool{false, true} {
				got, ok := impl.DivisorShares(total, weights, odd)
				what := fmt.Sprintf("DivisorShares(%d, %v, %v)", total, weights, odd)
				isList(t, what, got, ok, slowDivisors(total, weights, odd)...)
			}
		}
	}
}

func TestFactorWeights(t *testing.T) {
	const cube = 1000 * 1000 * 1000
	for _, c := range []struct {
		f     factors
		want  []int64
		below int64
	}{
		{factors{[][]int64{{1, 1}, {1, 3}}, []int64{1, 1}}, []int64{6, 10}, 16},
		{factors{[][]int64{{1}}, []int64{1}}, []int64{1}, 1},
		{factors{[][]int64{{7}}, []int64{9}}, []int64{63}, 63},
		{factors{[][]int64{{2, 4}}, []int64{3}}, []int64{6, 12}, 18}, // not without common factors
		{factors{[][]int64{{1, 0}, {0, 1}}, []int64{0, 1}}, []int64{0, 1}, 1},
		{factors{[][]int64{{1, 0}, {0, 1}}, []int64{2, 1}}, []int64{2, 1}, 3},
		{factors{[][]int64{{1, 2}, {3, 1}, {1, 1}}, []int64{1, 2, 0}}, []int64{8 + 36, 16 + 12}, 72},
		{factors{[][]int64{{1, 2}, {3, 1}, {1, 1}, {0, 5}}, []int64{1, 2, 3, 4}}, []int64{40 + 180 + 180, 80 + 60 + 180 + 480}, 1200},
		{factors{[][]int64{{1000}, {1000}, {1000}, {1000}}, []int64{9, 9, 9, 9}}, []int64{36000 * cube}, 36000 * cube},
		{factors{[][]int64{{1000, 0}, {1000, 0}, {1000, 0}, {0, 1000}}, []int64{9, 9, 9, 9}}, []int64{27000 * cube, 9000 * cube}, 36000 * cube},
	} {
		got, below, ok := impl.FactorWeights(c.f.lists, c.f.mixes)
		what := fmt.Sprintf("FactorWeights(%v)", c.f)
		isList(t, what, got, ok, c.want...)
		isInt(t, what+", for all places", below, c.below)
	}
}

func TestFactorWeightsByFractions(t *testing.T) {
	for _, f := range goodFactors() {
		got, below, ok := impl.FactorWeights(f.lists, f.mixes)
		what := fmt.Sprintf("FactorWeights(%v): got %v %d", f, got, below)
		isTrue(t, what, ok && len(got) == len(f.lists[0]))
		want := sumOf(f.mixes)
		for _, list := range f.lists {
			want *= sumOf(list)
		}
		isInt(t, what, below, want)
		for place, number := range got {
			sum := new(big.Rat)
			for i, list := range f.lists {
				sum.Add(sum, quotient(f.mixes[i], list[place], sumOf(list)))
			}
			sum.Quo(sum, big.NewRat(sumOf(f.mixes), 1))
			isTrue(t, fmt.Sprintf("%s, want %v at %d", what, sum, place), sum.Cmp(big.NewRat(number, below)) == 0)
		}
	}
}

// Any number of workers makes the same.
func TestSharesShared(t *testing.T) {
	const most = 1000000000
	for _, c := range []struct {
		totals, weights, want []int64
	}{
		{[]int64{100, 4}, []int64{1, 1, 1}, []int64{34, 2}},
		{[]int64{0}, []int64{1}, []int64{0}},
		{[]int64{9, 9, 9}, []int64{0, 1}, []int64{0, 0, 0}},
		{[]int64{0, 1, 2, 3, 4, 5, 6, 7, 8, 9, 10, 11, 12, 13, 14, 15}, []int64{1, 3}, []int64{0, 0, 1, 1, 1, 1, 2, 2, 2, 2, 3, 3, 3, 3, 4, 4}},
		{[]int64{most, most - 1}, []int64{most, most}, []int64{most / 2, most / 2}},
	} {
		for workers := int64(1); workers <= impl.MaxWorkers; workers++ {
			got, ok := impl.SharesShared(c.totals, c.weights, workers)
			isList(t, fmt.Sprintf("SharesShared(%v, %v, %d)", c.totals, c.weights, workers), got, ok, c.want...)
		}
	}
	g := lcg(85)
	for _, weights := range goodPlaces() {
		var totals, want []int64
		for range 1 + g.below(15) {
			total := g.one(goodTotals()...)
			totals = append(totals, total)
			want = append(want, slowSplit(total, weights)[0])
		}
		for workers := int64(1); workers <= impl.MaxWorkers; workers++ {
			got, ok := impl.SharesShared(totals, weights, workers)
			isList(t, fmt.Sprintf("SharesShared(%v, %v, %d)", totals, weights, workers), got, ok, want...)
		}
	}
}
