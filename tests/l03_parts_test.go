package tests

import (
	"fmt"
	"math/big"
	"slices"
	"testing"

	"loop.example/g01393/impl"
)

func TestSplitCents(t *testing.T) {
	const most = impl.MaxSums
	for _, c := range []struct {
		cents         int64
		weights, want []int64
	}{
		{100, []int64{1, 1, 1}, []int64{34, 33, 33}},
		{0, []int64{1, 0, 5}, []int64{0, 0, 0}},
		{7, []int64{1}, []int64{7}},
		{7, []int64{0, 3, 0}, []int64{0, 7, 0}},
		{10, []int64{1, 2, 3, 4}, []int64{1, 2, 3, 4}},
		{11, []int64{1, 2, 3, 4}, []int64{1, 2, 3, 5}},
		{1, []int64{1, 1}, []int64{1, 0}},
		{1, []int64{1, 2}, []int64{0, 1}},
		{5, []int64{0, 1, 1, 0, 1}, []int64{0, 2, 2, 0, 1}},
		{2, []int64{3, 3, 1}, []int64{1, 1, 0}},
		{3, []int64{5, 5, 4}, []int64{1, 1, 1}},
		{8, []int64{2, 3, 3}, []int64{2, 3, 3}},
		{most, []int64{most, most, 1}, []int64{most / 2, most / 2, 0}},
		{most, []int64{1, most}, []int64{1, most - 1}},
		{most - 1, []int64{most, 1}, []int64{most - 2, 1}},
	} {
		got, ok := impl.SplitCents(c.cents, c.weights)
		isList(t, fmt.Sprintf("SplitCents(%d, %v)", c.cents, c.weights), got, ok, c.want...)
	}
	for _, weights := range goodWeights() {
		for _, cents := range sums() {
			got, ok := impl.SplitCents(cents, weights)
			isList(t, fmt.Sprintf("SplitCents(%d, %v)", cents, weights), got, ok, slowSplit(cents, weights)...)
		}
	}
}

func TestSplitInTurn(t *testing.T) {
	const most = impl.MaxSums
	for _, c := range []struct {
		cents         int64
		weights, want []int64
	}{
		{100, []int64{1, 1, 1}, []int64{33, 34, 33}},
		{0, []int64{1, 0, 5}, []int64{0, 0, 0}},
		{7, []int64{1}, []int64{7}},
		{7, []int64{0, 3, 0, 0}, []int64{0, 7, 0, 0}},
		{1, []int64{1, 1}, []int64{1, 0}},
		{3, []int64{1, 1}, []int64{2, 1}},
		{1, []int64{1, 2}, []int64{0, 1}},
		{10, []int64{1, 2, 3, 4}, []int64{1, 2, 3, 4}},
		{11, []int64{1, 2, 3, 4}, []int64{1, 2, 3, 5}},
		{5, []int64{1, 1, 1, 1, 1, 1, 1, 1, 1, 1}, []int64{1, 0, 1, 0, 1, 0, 1, 0, 1, 0}},
		{most, []int64{most, most}, []int64{most / 2, most / 2}},
		{most - 1, []int64{most, most}, []int64{most / 2, most/2 - 1}},
	} {
		got, ok := impl.SplitInTurn(c.cents, c.weights)
		isList(t, fmt.Sprintf("SplitInTurn(%d, %v)", c.cents, c.weights), got, ok, c.want...)
	}
	for _, weights := range goodWeights() {
		for _, cents := range sums() {
			left := cents
			var want []int64
			for i, weight := range weights {
				part := int64(0)
				if behind := sumOf(weights[i:]); behind > 0 {
					part = slowNear(quotient(left, weight, behind))
				}
				left -= part
				want = append(want, part)
			}
			got, ok := impl.SplitInTurn(cents, weights)
			isList(t, fmt.Sprintf("SplitInTurn(%d, %v)", cents, weights), got, ok, want...)
		}
	}
}

func TestRoundPart(t *testing.T) {
	const most = impl.MaxSums
	for _, c := range []struct {
		cents, by, of    int64
		down, near, even int64
	}{
		{0, 1, 2, 0, 0, 0},
		{5, 0, 2, 0, 0, 0},
		{-5, 0, 2, 0, 0, 0},
		{1, 1, 2, 0, 1, 0},
		{3, 1, 2, 1, 2, 2},
		{5, 1, 2, 2, 3, 2},
		{7, 1, 2, 3, 4, 4},
		{-1, 1, 2, -1, -1, 0},
		{-3, 1, 2, -2, -2, -2},
		{-5, 1, 2, -3, -3, -2},
		{-7, 1, 2, -4, -4, -4},
		{4, 1, 3, 1, 1, 1},
		{5, 1, 3, 1, 2, 2},
		{-4, 1, 3, -2, -1, -1},
		{-5, 1, 3, -2, -2, -2},
		{6, 1, 3, 2, 2, 2},
		{-6, 1, 3, -2, -2, -2},
		{3, 3, 6, 1, 2, 2},
		{-3, 5, 6, -3, -3, -2},
		{most, 1000000, 1, most * 1000000, most * 1000000, most * 1000000},
		{-most, 1000000, 1, -most * 1000000, -most * 1000000, -most * 1000000},
		{most, 1, 1000000, 1000, 1000, 1000},
		{most - 1, 1, 1000000, 999, 1000, 1000},
		{1 - most, 1, 1000000, -1000, -1000, -1000},
		{-1, 1, 1000000, -1, 0, 0},
		{500000, 1, 1000000, 0, 1, 0},
		{-500000, 1, 1000000, -1, -1, 0},
		{-500001, 1, 1000000, -1, -1, -1},
		{-499999, 1, 1000000, -1, 0, 0},
		{1500000, 1, 1000000, 1, 2, 2},
		{-1500000, 1, 1000000, -2, -2, -2},
	} {
		for kind, want := range []int64{c.down, c.near, c.even} {
			got, ok := impl.RoundPart(c.cents, c.by, c.of, int64(kind))
			what := fmt.Sprintf("RoundPart(%d, %d, %d, %d)", c.cents, c.by, c.of, kind)
			isTold(t, what, got, ok, want)
		}
	}
}

// slowPart rounds an exact quotient of any sign by its distances to integers.
func slowPart(x *big.Rat, kind int64) int64 {
	low := new(big.Int).Div(x.Num(), x.Denom()).Int64() // for a divisor above 0, the lesser one
	side := new(big.Rat).Sub(x, big.NewRat(low, 1)).Cmp(big.NewRat(1, 2))
	switch {
	case kind == 0, side < 0:
		return low
	case side > 0:
		return low + 1
	case kind == 1 && x.Sign() < 0:
		return low
	case kind == 2 && low%2 == 0:
		return low
	}
	return low + 1
}

func TestRoundPartByFractions(t *testing.T) {
	g := lcg(41)
	for range 20000 {
		cents := g.below(2*impl.MaxSums) - impl.MaxSums
		if g.below(1) == 0 {
			cents = g.below(200) - 100
		}
		by, of := g.one(0, 1, 3, 5, 1000000, g.below(1000000)), g.one(1, 2, 4, 6, 10, 1000000, 1+g.below(999999))
		for kind := range int64(3) {
			got, ok := impl.RoundPart(cents, by, of, kind)
			what := fmt.Sprintf("RoundPart(%d, %d, %d, %d)", cents, by, of, kind)
			isTold(t, what, got, ok, slowPart(quotient(cents, by, of), kind))
		}
	}
}

func TestEvenParts(t *testing.T) {
	const most = impl.MaxSums
	for _, c := range []struct {
		cents, count int64
		want         []int64
	}{
		{10, 3, []int64{4, 3, 3}},
		{11, 3, []int64{4, 4, 3}},
		{12, 3, []int64{4, 4, 4}},
		{0, 4, []int64{0, 0, 0, 0}},
		{3, 5, []int64{1, 1, 1, 0, 0}},
		{0, 1, []int64{0}},
		{most, 1, []int64{most}},
		{most, 7, []int64{142857143, 142857143, 142857143, 142857143, 142857143, 142857143, 142857142}},
		{119, impl.MaxTerms, append(slices.Repeat([]int64{1}, 119), 0)},
	} {
		got, ok := impl.EvenParts(c.cents, c.count)
		isList(t, fmt.Sprintf("EvenParts(%d, %d)", c.cents, c.count), got, ok, c.want...)
	}
	for _, cents := range sums() {
		for count := int64(1); count <= impl.MaxTerms; count++ {
			var want []int64
			for i := range count {
				part := cents / count
				if i < cents%count {
					part++
				}
				want = append(want, part)
			}
			got, ok := impl.EvenParts(cents, count)
			isList(t, fmt.Sprintf("EvenParts(%d, %d)", cents, count), got, ok, want...)
		}
	}
}
