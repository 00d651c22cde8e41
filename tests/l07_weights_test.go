package tests

import (
	"fmt"
	"math"
	"slices"
	"testing"

	"loop.example/g01393/impl"
)

// raking has what RakeWeights takes but the rounds.
type raking struct {
	weights     []float32
	a, b        []int64
	aims, goals []float32
}

func (r raking) do(rounds int64) ([]float32, float32, bool) {
	return impl.RakeWeights(r.weights, r.a, r.b, r.aims, r.goals, rounds)
}

func slowGroupSum(weights []float32, groups []int64, group int) float32 {
	var own []float32
	for i, weight := range weights {
		if int(groups[i]) == group {
			own = append(own, weight)
		}
	}
	return slowSum(own)
}

// slowRake rakes one kind of groups once, step by step.
func slowRake(weights []float32, groups []int64, aims []float32) []float32 {
	for group, aim := range aims {
		by, raked := div(aim, slowGroupSum(weights, groups, group)), slices.Clone(weights)
		for i := range raked {
			if int(groups[i]) == group {
				raked[i] = mul(raked[i], by)
			}
		}
		weights = raked
	}
	return weights
}

func slowRakes(r raking, rounds int64) ([]float32, float32) {
	weights := r.weights
	for range rounds {
		weights = slowRake(slowRake(weights, r.a, r.aims), r.b, r.goals)
	}
	var off []float32
	for group, aim := range r.aims {
		off = append(off, float32(math.Abs(float64(sub(slowGroupSum(weights, r.a, group), aim)))))
	}
	return weights, slices.Max(off)
}

func TestRakeWeights(t *testing.T) {
	const people = impl.MaxPeople
	one := func(weight, aim, goal float32) raking {
		return raking{[]float32{weight}, []int64{0}, []int64{0}, []float32{aim}, []float32{goal}}
	}
	two := []float32{1, 1}
	for _, c := range []struct {
		r       raking
		rounds  int64
		weights []float32
		off     float32
	}{
		{raking{two, []int64{0, 1}, []int64{0, 0}, []float32{1, 3}, []float32{4}}, 1, []float32{1, 3}, 0},
		{raking{two, []int64{0, 1}, []int64{0, 0}, []float32{1, 3}, []float32{8}}, 1, []float32{2, 6}, 3},
		{raking{two, []int64{0, 1}, []int64{0, 0}, []float32{1, 3}, []float32{8}}, 64, []float32{2, 6}, 3},
		{raking{two, []int64{1, 0}, []int64{0, 0}, []float32{1, 3}, []float32{4}}, 1, []float32{3, 1}, 0},
		{raking{two, []int64{0, 1}, []int64{0, 0}, []float32{3, 1}, []float32{2}}, 1, []float32{1.5, 0.5}, 1.5}, // both groups have less than their aim
		{one(1, 2, 2), 1, []float32{2}, 0},
		{one(1, 2, 8), 1, []float32{8}, 6},
		{one(8, 16, 2), 64, []float32{2}, 14},
		{raking{[]float32{1, 3}, []int64{0, 0}, []int64{0, 1}, []float32{8}, []float32{2, 6}}, 1, []float32{2, 6}, 0},
		{raking{[]float32{1, 3}, []int64{0, 0}, []int64{0, 1}, []float32{8}, []float32{5, 1}}, 1, []float32{5, 1}, 2},
		{raking{[]float32{1, 3}, []int64{0, 0}, []int64{0, 0}, []float32{8}, []float32{4}}, 1, []float32{1, 3}, 4}, // the same groups
		{raking{[]float32{1, 3}, []int64{0, 1}, []int64{0, 1}, []float32{2, 2}, []float32{4, 8}}, 1, []float32{4, 8}, 6},
		{raking{[]float32{1, 1, 2, 4}, []int64{0, 0, 1, 1}, []int64{0, 1, 0, 1}, []float32{4, 3}, []float32{1.5, 12}}, 1, []float32{1, 6, 0.5, 6}, 3.5},
		{raking{[]float32{16777216, 1, 1, 2}, []int64{0, 0, 0, 1}, []int64{0, 0, 0, 0}, []float32{16777216, 2}, []float32{16777218}}, 1, []float32{16777216, 1, 1, 2}, 0},
		{raking{slices.Repeat([]float32{2}, people), make([]int64, people), make([]int64, people), []float32{64}, []float32{64}}, 1, slices.Repeat([]float32{1}, people), 0},
		{one(number(bitsLeast), number(bitsLeast), number(bitsLeast)), 64, []float32{number(bitsLeast)}, 0},
		{one(number(bitsMost), number(bitsMost), number(bitsMost)), 64, []float32{number(bitsMost)}, 0},
		{one(1, number(bitsMost), number(bitsLeast)), 1, []float32{0}, number(bitsMost)}, // the quotient is rounded to 0
	} {
		weights, off, ok := c.r.do(c.rounds)
		what := fmt.Sprintf("RakeWeights(%v, %d)", c.r, c.rounds)
		isReals(t, what, weights, ok, c.weights...)
		isReal(t, "the difference of "+what, off, ok, c.off)
	}
}

// goodRakings has weights of all sizes, with groups that are the same and others.
func goodRakings() []raking {
	g := lcg(201)
	var all []raking
	for range 1500 {
		count := 1 + g.below(g.one(1, 4, 10, impl.MaxPeople-1))
		amount := func() float32 { return float32(1+g.below(1000)) / 16 }
		kind := func() ([]int64, []float32) {
			groups := 1 + g.below(min(count, g.one(1, 3, impl.MaxGroups))-1)
			var own []int64
			for i := range count {
				own = append(own, i%groups)
			}
			return shuffled(&g, own), reals(groups, amount)
		}
		r := raking{weights: reals(count, amount)}
		r.a, r.aims = kind()
		r.b, r.goals = kind()
		switch g.below(5) {
		case 0:
			r.b, r.goals = slices.Clone(r.a), reals(int64(len(r.aims)), amount)
		case 1:
			r.weights = reals(count, func() float32 { return number(uint32(1 + g.below(bitsMost-1))) })
		}
		all = append(all, r)
	}
	return all
}

func TestRakeWeightsStepByStep(t *testing.T) {
	g := lcg(202)
	failures := 0
	for _, r := range goodRakings() {
		for _, rounds := range []int64{1, 2, 3 + g.below(60), 64} {
			weights, off, ok := r.do(rounds)
			want, far := slowRakes(r, rounds)
			what := fmt.Sprintf("RakeWeights(%v, %d)", r, rounds)
			if !allAre(want, finite) || !finite(far) {
				isNone(t, what, results(weights, off, ok))
				failures++
				continue
			}
			isReals(t, what, weights, ok, want...)
			isReal(t, "the difference of "+what, off, ok, far)
		}
	}
	isTrue(t, fmt.Sprintf("some fail: %d", failures), failures > 50 && failures < 3000)
}

// Numbers in between may be what they like, but those that are returned are finite.
func TestRakeWeightsNotFinite(t *testing.T) {
	most, least := number(bitsMost), number(bitsLeast)
	zeros := make([]int64, 2)
	for _, r := range []raking{
		{[]float32{least, least}, zeros, zeros, []float32{1}, []float32{1}},               // a quotient is infinite
		{[]float32{most, most}, zeros, zeros, []float32{1}, []float32{1}},                 // a sum is, and the weights become 0
		{[]float32{1, 1}, zeros, []int64{0, 1}, []float32{4}, []float32{most, most}},      // the sum of a group is, but no weight
		{[]float32{1, 1}, []int64{0, 1}, zeros, []float32{most, most}, []float32{1}},      // a sum of the second kind is, in both rounds
		{[]float32{1, least}, zeros, []int64{0, 1}, []float32{least}, []float32{1, most}}, // a weight becomes 0, and then none
	} {
		isNone(t, fmt.Sprintf("RakeWeights(%v)", r), results(r.do(2)))
	}
	isNone(t, "RakeWeights with an infinite sum behind the last round", results(raking{[]float32{1, 1}, zeros, []int64{0, 1}, []float32{4}, []float32{most, most}}.do(1)))
	// In one round, the weights that become 0 are finite.
	weights, off, ok := raking{[]float32{1, 1}, []int64{0, 1}, zeros, []float32{most, most}, []float32{1}}.do(1)
	isReals(t, "RakeWeights of an infinite sum", weights, ok, 0, 0)
	isReal(t, "the difference of RakeWeights of an infinite sum", off, ok, most)
}

// badRakings has arguments that are not as they must be, each for one reason.
func badRakings() []raking {
	good := func() raking {
		return raking{[]float32{1, 2, 3}, []int64{0, 1, 0}, []int64{1, 0, 1}, []float32{1, 3}, []float32{4, 5}}
	}
	var all []raking
	spoil := func(change func(r *raking)) {
		r := good()
		change(&r)
		all = append(all, r)
	}
	long, groups := slices.Repeat([]float32{1}, impl.MaxPeople+1), make([]int64, impl.MaxPeople+1)
	groups[0] = 1
	all = append(all, raking{}, raking{long, groups, groups, []float32{1, 3}, []float32{4, 5}})
	for _, x := range append(notFinite(), 0, minusZero(), -1, number(0x80000001), -number(bitsMost)) {
		for i := range 3 {
			spoil(func(r *raking) { r.weights[i] = x })
		}
		for i := range 2 {
			spoil(func(r *raking) { r.aims[i] = x })
			spoil(func(r *raking) { r.goals[i] = x })
		}
	}
	for _, n := range []int64{-1, 2, math.MinInt64, math.MaxInt64} {
		for i := range 3 {
			spoil(func(r *raking) { r.a[i] = n })
			spoil(func(r *raking) { r.b[i] = n })
		}
	}
	for _, list := range [][]int64{nil, {}, {0, 1}, {0, 1, 0, 1}, {0, 0, 0}, {1, 1, 1}} { // of other lengths, or with a group that has no weight
		spoil(func(r *raking) { r.a = list })
		spoil(func(r *raking) { r.b = list })
	}
	for _, list := range [][]float32{nil, {}, {1}, {1, 1, 1}, slices.Repeat([]float32{1}, impl.MaxGroups+1)} {
		spoil(func(r *raking) { r.aims = list })
		spoil(func(r *raking) { r.goals = list })
	}
	spoil(func(r *raking) { r.weights = r.weights[:2] })
	spoil(func(r *raking) { r.weights = append(r.weights, 1) })
	spoil(func(r *raking) { r.weights = nil })
	return all
}

func TestRakeWeightsFail(t *testing.T) {
	for _, r := range badRakings() {
		isNone(t, fmt.Sprintf("RakeWeights(%v)", r), results(r.do(1)))
		isNone(t, fmt.Sprintf("RakeWeights(%v)", r), results(r.do(64)))
	}
	good := raking{[]float32{1, 1}, []int64{0, 1}, []int64{0, 0}, []float32{1, 3}, []float32{4}}
	for _, rounds := range []int64{-1, 0, 65, math.MinInt64, math.MaxInt64} {
		isNone(t, fmt.Sprintf("RakeWeights in %d rounds", rounds), results(good.do(rounds)))
	}
	// Nine groups are too many of either kind, even if each has a weight.
	var nine []int64
	for i := range int64(9) {
		nine = append(nine, i)
	}
	ones := slices.Repeat([]float32{1}, 9)
	isNone(t, "RakeWeights with nine aims", results(impl.RakeWeights(ones, nine, make([]int64, 9), ones, ones[:1], 1)))
	isNone(t, "RakeWeights with nine goals", results(impl.RakeWeights(ones, make([]int64, 9), nine, ones[:1], ones, 1)))
	weights, _, ok := impl.RakeWeights(ones[:8], nine[:8], nine[:8], ones[:8], ones[:8], 1)
	isReals(t, "RakeWeights with eight groups of both kinds", weights, ok, ones[:8]...)
}
