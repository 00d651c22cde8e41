package tests

import (
	"math/big"
	"slices"

	"loop.example/g01393/impl"
)

// bill is what functions of lines take, but for the way of rounding.
type bill struct {
	lines, kinds, rates []int64
}

// goodBills has lines of all numbers, with rates without lines, and with lines
// whose dues are rounded apart from the due of their sum.
func goodBills() []bill {
	const most = impl.MaxCents
	all := []bill{
		{[]int64{3, 3, 3}, []int64{0, 0, 0}, []int64{5000}},
		{[]int64{0}, []int64{0}, []int64{0}},
		{[]int64{most}, []int64{15}, append(make([]int64, 15), 10000)},
		{[]int64{5, 7, 9}, []int64{2, 0, 2}, []int64{3333, 2000, 700, 10000}},
		{[]int64{most / 2, most / 2}, []int64{0, 1}, []int64{9999, 1}},
		{[]int64{most - 2, 1, 1}, []int64{1, 1, 1}, []int64{0, 3333}},
		{slices.Repeat([]int64{1}, impl.MaxLines), make([]int64, impl.MaxLines), []int64{9999}},
		{slices.Repeat([]int64{1}, impl.MaxLines), make([]int64, impl.MaxLines), []int64{1}},
		{slices.Repeat([]int64{most / impl.MaxLines}, impl.MaxLines), slices.Repeat([]int64{0, 1}, impl.MaxLines/2), []int64{1234, 4321}},
	}
	g := lcg(21)
	for range 300 {
		var b bill
		for range 1 + g.below(impl.MaxStages-1) {
			b.rates = append(b.rates, g.one(0, 1, 2, 700, 1900, 2000, 3333, 5000, 9999, 10000, g.below(10000)))
		}
		cents := g.one(1, 7, 100, 20000, most/impl.MaxLines)
		for range 1 + g.below(impl.MaxLines-1) {
			b.lines = append(b.lines, g.below(cents))
			b.kinds = append(b.kinds, g.below(int64(len(b.rates)-1)))
		}
		all = append(all, b)
	}
	return all
}

// slowDueByRate returns cents times rate, divided by 10000, by exact fractions.
func slowDueByRate(cents, rate, round int64) int64 {
	return slowRound(quotient(cents, rate, 10000), round)
}

// slowRateDues returns the dues of the sums of lines.
func slowRateDues(b bill, round int64) []int64 {
	sums := make([]int64, len(b.rates))
	for i, cents := range b.lines {
		sums[b.kinds[i]] += cents
	}
	for kind, rate := range b.rates {
		sums[kind] = slowDueByRate(sums[kind], rate, round)
	}
	return sums
}

// slowSpread sorts all lines of a rate by the exact fractions that are left.
func slowSpread(b bill, round int64) []int64 {
	dues := make([]int64, len(b.lines))
	rests := make([]*big.Rat, len(b.lines))
	for i, cents := range b.lines {
		exact := quotient(cents, b.rates[b.kinds[i]], 10000)
		dues[i] = slowRound(exact, 0)
		rests[i] = exact.Sub(exact, big.NewRat(dues[i], 1))
	}
	for kind, left := range slowRateDues(b, round) {
		var order []int
		for i := range b.lines {
			if b.kinds[i] == int64(kind) {
				order = append(order, i)
				left -= dues[i]
			}
		}
		slices.SortStableFunc(order, func(i, j int) int { return rests[j].Cmp(rests[i]) })
		for _, i := range order[:left] {
			dues[i]++
		}
	}
	return dues
}

// goodPlaces has weights of places, some of them 0 and some the greatest ones.
func goodPlaces() [][]int64 {
	const most = 1000000000
	all := [][]int64{
		{1}, {most}, {1, 1, 1}, {0, 1}, {1, 0}, {0, 0, 3, 0, 5, 0}, {6, 3}, {3, 6}, {2, 4, 6, 8}, {most, most, 1}, {1, most, most - 1},
		{53, 24, 23}, {47, 16, 158, 81}, slices.Repeat([]int64{1}, impl.MaxPlaces), slices.Repeat([]int64{most}, impl.MaxPlaces),
		append(make([]int64, impl.MaxPlaces-1), 1), slices.Repeat([]int64{0, most - 1, 7}, impl.MaxPlaces/3),
	}
	g := lcg(22)
	for range 80 {
		all = append(all, g.weights(impl.MaxPlaces, g.one(1, 3, 10, 100, most)))
	}
	return all
}

// goodTotals has numbers to share, to the greatest one of LargestRests.
func goodTotals() []int64 {
	all := []int64{0, 1, 2, 3, 4, 5, 7, 10, 11, 99, 100, 101, 999, 1000, 1001, 999999999, 1000000000}
	g := lcg(23)
	for range 10 {
		all = append(all, g.below(1000), g.below(1000000000))
	}
	return all
}

// slowDivisors sorts all quotients that units can be given for, instead of
// giving one after another.
func slowDivisors(total int64, weights []int64, odd bool) []int64 {
	type unit struct {
		place        int
		above, below int64
	}
	var units []unit
	for place, weight := range weights {
		for has := range total {
			below := has + 1
			if odd {
				below = 2*has + 1
			}
			units = append(units, unit{place, weight, below})
		}
	}
	slices.SortStableFunc(units, func(a, b unit) int {
		return int(min(1, max(-1, b.above*a.below-a.above*b.below)))
	})
	shares := make([]int64, len(weights))
	for _, u := range units[:total] {
		shares[u.place]++
	}
	return shares
}

// factors is what FactorWeights takes.
type factors struct {
	lists [][]int64
	mixes []int64
}

func goodFactors() []factors {
	long := append(make([]int64, impl.MaxPlaces-1), 1000)
	all := []factors{
		{[][]int64{{1, 1}, {1, 3}}, []int64{1, 1}},
		{[][]int64{{1}}, []int64{9}},
		{[][]int64{{1000}}, []int64{1}},
		{[][]int64{{1, 0}, {0, 1}}, []int64{0, 1}},
		{[][]int64{{2, 3, 5}, {1, 0, 0}, {4, 4, 4}, {500, 499, 1}}, []int64{3, 0, 9, 5}},
		{[][]int64{long, long, long, long}, []int64{9, 9, 9, 9}},
		{[][]int64{{1000, 0}, {0, 1000}, {500, 500}, {1, 999}}, []int64{9, 8, 7, 6}},
		{[][]int64{slices.Repeat([]int64{83}, impl.MaxPlaces)}, []int64{2}},
	}
	g := lcg(24)
	for range 300 {
		var f factors
		places, most := 1+g.below(impl.MaxPlaces-1), g.one(1, 5, 83)
		for range 1 + g.below(3) {
			list := make([]int64, places)
			for place := range list {
				list[place] = g.below(most) * g.one(0, 1, 1)
			}
			list[g.below(places-1)]++
			f.lists, f.mixes = append(f.lists, list), append(f.mixes, g.one(0, g.below(9)))
		}
		f.mixes[g.below(int64(len(f.mixes)-1))] = 1 + g.below(8)
		all = append(all, f)
	}
	return all
}

// goodNets has nets that rise and fall, of all lengths.
func goodNets() [][]int64 {
	const most = impl.MaxCents
	all := [][]int64{{5, 9, 7, 8, 10}, {1, 2}, {2, 1}, {1, 1}, {0, 0}, {most, 0}, {0, most}, {most, most}, {0, 1, 2, 3}, {3, 2, 1, 0}, slices.Repeat([]int64{7}, 65)}
	g := lcg(25)
	for range 400 {
		most := g.one(1, 5, 1000, impl.MaxCents)
		rise := g.one(0, 0, most/8)
		nets := []int64{g.below(most)}
		for i := range 1 + g.below(63) {
			nets = append(nets, min(impl.MaxCents, g.below(most)+i*rise))
		}
		all = append(all, nets)
	}
	return all
}
