package tests

import (
	"math"
	"slices"
	"testing"

	"loop.example/g01393/impl"
)

// add, sub, mul and div are operations on 32-bit numbers. 64-bit ones have
// enough places that narrowing their results rounds as if it were done once.

func add(a, b float32) float32 { return float32(float64(a) + float64(b)) }
func sub(a, b float32) float32 { return float32(float64(a) - float64(b)) }
func mul(a, b float32) float32 { return float32(float64(a) * float64(b)) }
func div(a, b float32) float32 { return float32(float64(a) / float64(b)) }

func isReal(t *testing.T, what string, got float32, ok bool, want float32) {
	t.Helper()
	if !ok || bitsOf(got) != bitsOf(want) {
		t.Errorf("%s: got %v (%08x) %v, want %v (%08x)", what, got, bitsOf(got), ok, want, bitsOf(want))
	}
}

func isReals(t *testing.T, what string, got []float32, ok bool, want ...float32) {
	t.Helper()
	same := func(a, b float32) bool { return bitsOf(a) == bitsOf(b) }
	if !ok || !slices.EqualFunc(got, want, same) {
		t.Errorf("%s: got %v %v, want %v", what, got, ok, want)
	}
}

// minusZero is written by its bits, as a literal has no sign.
func minusZero() float32 { return number(bitsMinus) }

// chance returns a number from 0 to 1, some of them at the edges.
func (g *lcg) chance() float32 {
	switch g.below(9) {
	case 0:
		return 0
	case 1:
		return minusZero()
	case 2:
		return number(uint32(1 + g.below(bitsNormal)))
	case 3:
		return 1 - float32(g.below(3))/(1<<24)
	case 4:
		return float32(g.below(1<<24)) / (1 << 24)
	}
	return float32(g.below(1000)) / 10000
}

// goodLives has life tables of all lengths, with chances of 0 and of 1 in the
// middle, and with zeros of both signs.
func goodLives() [][]float32 {
	all := [][]float32{
		{1},
		{0, 1},
		{minusZero(), 1},
		{1, 1},
		{1, 0, minusZero(), 1},
		{0.5, 0.5, 1},
		{0.5, 1, 0.25, 1},
		{number(bitsLeast), 0.1, number(0x3f7fffff), 1},
		append(make([]float32, impl.MaxLife-1), 1),
		slices.Repeat([]float32{1}, impl.MaxLife),
		append(slices.Repeat([]float32{0.9}, impl.MaxLife-1), 1), // shares that are subnormal, and then 0
		append(slices.Repeat([]float32{0.01, 0.2, 0.003}, 39), 0.5, 1),
	}
	g := lcg(61)
	for range 60 {
		var q []float32
		for range g.below(g.one(3, 20, impl.MaxLife-1)) {
			q = append(q, g.chance())
		}
		all = append(all, append(q, 1))
	}
	return all
}

// badLives has lists that are no life tables, each for one reason.
func badLives() [][]float32 {
	all := [][]float32{
		nil,
		{},
		{0.5},
		{0},
		{1, 0.5},
		{0.5, number(0x3f7fffff)},
		slices.Repeat([]float32{1}, impl.MaxLife+1),
		append(make([]float32, impl.MaxLife), 1),
	}
	for _, x := range badChances() {
		all = append(all, []float32{x}, []float32{x, 1}, []float32{0.5, x, 1}, []float32{0.5, x})
	}
	return all
}

// badChances has numbers just outside of 0 to 1, and others that are far away or none.
func badChances() []float32 {
	return []float32{
		number(0x80000001), number(0x3f800001), -1, 2, number(bitsMost), -number(bitsMost),
		number(bitsInf), number(bitsNegInf), number(bitsNaN), number(bitsNegNaN),
	}
}

// goodInterest has rates from 0 to 1.
func goodInterest() []float32 {
	return []float32{0, minusZero(), 1, 0.5, 0.03, 0.0175, number(bitsLeast), number(0x33800000), number(0x3f7fffff), 0.1, 1.0 / 3}
}

// slowShares returns who is alive, by all chances before.
func slowShares(q []float32) []float32 {
	var shares []float32
	for year := range q {
		share := float32(1)
		for _, chance := range q[:year] {
			share = mul(share, sub(1, chance))
		}
		shares = append(shares, share)
	}
	return shares
}

// slowPower returns a power of the factor of a rate.
func slowPower(rate float32, year int) float32 {
	power := float32(1)
	for range year {
		power = mul(power, div(1, add(1, rate)))
	}
	return power
}

// slowValue returns what pays for shares are worth from some year on.
func slowValue(shares []float32, rate float32, wait int) float32 {
	sum := float32(0)
	for year := wait; year < len(shares); year++ {
		sum = add(sum, mul(shares[year], slowPower(rate, year)))
	}
	return sum
}

// spanLists has spans that overlap, that touch, that lie in one another, in any order.
func spanLists() [][]int64 {
	const most = impl.MaxMonths
	all := [][]int64{
		{0, 10, 5, 15},
		{0, 10},
		{0, 1},
		{0, most},
		{most - 1, most},
		{3, 4},
		{5, 15, 0, 10},
		{0, 10, 10, 20},
		{10, 20, 0, 10},
		{0, 10, 11, 20},
		{0, 100, 20, 30},
		{20, 30, 0, 100},
		{0, 100, 0, 30},
		{0, 30, 0, 100},
		{0, 100, 70, 100},
		{70, 100, 0, 100},
		{5, 9, 5, 9},
		{5, 9, 20, 21, 5, 9},
		{50, 60, 0, 100, 20, 30, 99, 101, 103, 104},
		{20, 22, 0, 10},
		{30, 40, 20, 30, 10, 20, 0, 10},
		{most - 1, most, 0, 1},
		{0, 3, 1, 4, 2, 5, 7, 9, 6, 8, 10, 11},
		slices.Repeat([]int64{7, 9}, impl.MaxCareer),
	}
	var ones, chain []int64
	for i := range int64(impl.MaxCareer) {
		ones = append(ones, most-2*i-1, most-2*i)
		chain = append(chain, 10*i, 10*i+11)
	}
	all = append(all, ones, chain)
	g := lcg(62)
	for range 1500 {
		length := g.one(3, 60, 400, most-1)
		var spans []int64
		for range 1 + g.below(g.one(1, 5, impl.MaxCareer-1)) {
			from := g.below(length)
			spans = append(spans, from, min(most, from+1+g.below(g.one(0, 2, 30, 200))))
		}
		all = append(all, spans)
	}
	return all
}

// badSpans has lists that are no spans, each for one reason.
func badSpans() [][]int64 {
	const most = impl.MaxMonths
	all := [][]int64{
		nil, {}, {0}, {0, 10, 20}, {0, 10, 20, 30, 40},
		{5, 5}, {0, 0}, {most, most}, {6, 5}, {0, 10, 5, 5}, {0, 10, 6, 5}, {6, 5, 0, 10},
		slices.Repeat([]int64{0, 1}, impl.MaxCareer+1),
		append(slices.Repeat([]int64{0, 1}, impl.MaxCareer), 2),
	}
	for _, n := range []int64{-1, most + 1, math.MinInt64, math.MaxInt64} {
		all = append(all, []int64{n, 10}, []int64{10, n}, []int64{0, 10, n, 20}, []int64{0, 10, 20, n}, []int64{n, 10, 0, 20})
	}
	return append(all, []int64{most, most + 1}, []int64{-2, -1})
}

// monthSet marks the months of spans, one by one.
func monthSet(spans []int64) map[int64]bool {
	set := map[int64]bool{}
	for i := 0; i < len(spans); i += 2 {
		for month := spans[i]; month < spans[i+1]; month++ {
			set[month] = true
		}
	}
	return set
}

// fundRates has rates of funds of all lengths.
func fundRates() [][]int64 {
	all := [][]int64{
		{0}, {-9999}, {10000}, {0, 0}, {-9999, 10000}, {10000, -9999}, {500, -200, 300}, {1, -1, 0},
		slices.Repeat([]int64{10000}, impl.MaxService), slices.Repeat([]int64{-9999}, impl.MaxService),
		slices.Repeat([]int64{0}, impl.MaxService), append(slices.Repeat([]int64{10000}, impl.MaxService-1), -9999),
		append(slices.Repeat([]int64{10000}, 30), slices.Repeat([]int64{-9999}, 2)...),
		append(slices.Repeat([]int64{10000}, 20), -9999, -9999, 10000, -5000),
	}
	g := lcg(63)
	for range 120 {
		most := g.one(100, 1000, 9999)
		rates := []int64{g.below(2*most) - most}
		for range g.below(g.one(2, 10, impl.MaxService-1)) {
			rates = append(rates, g.below(2*most)-most+g.one(0, 0, 1))
		}
		all = append(all, rates)
	}
	return all
}

// badFundRates has lists that are no rates of funds, each for one reason.
func badFundRates() [][]int64 {
	all := [][]int64{nil, {}, make([]int64, impl.MaxService+1)}
	for _, n := range []int64{-10000, 10001, math.MinInt64, math.MaxInt64} {
		all = append(all, []int64{n}, []int64{n, 0, 0}, []int64{0, n, 0}, []int64{0, 0, n})
	}
	return all
}
