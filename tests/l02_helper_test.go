package tests

import (
	"math/big"
	"slices"
	"testing"

	"loop.example/g01393/impl"
)

// scaleWith returns the scale of breaks and rates that take turns.
func scaleWith(numbers ...int64) impl.Scale {
	var s impl.Scale
	for i := 0; i < len(numbers); i += 2 {
		s.Breaks = append(s.Breaks, numbers[i])
		s.Rates = append(s.Rates, numbers[i+1])
	}
	return s
}

// goodScales has scales of all sizes, with breaks and rates at their limits.
func goodScales() []impl.Scale {
	const most = impl.MaxCents
	return []impl.Scale{
		scaleWith(0, 0),
		scaleWith(0, 1),
		scaleWith(0, 5000),
		scaleWith(0, 3333),
		scaleWith(0, 9999),
		scaleWith(0, 10000),
		scaleWith(0, 1000, 1000, 2000),
		scaleWith(0, 9000, 10, 0),
		scaleWith(0, 0, 7, 10000, 9, 2500),
		scaleWith(0, 2500, 1, 5000, 2, 7500, 3, 1250),
		scaleWith(0, 0, 1, 9999, 2, 1, 3, 5000, 5, 5001, 8, 4999, 13, 3, 21, 9999),
		scaleWith(0, 10000, 1, 9999, 20, 10000, 30, 0, 40, 10000, 41, 5, 42, 10000, 43, 5000),
		scaleWith(0, 1400, 1109999, 2397, 6675999, 4200, 27782500, 4500),
		scaleWith(0, 37, most-1, 4200, most, 9999),
		scaleWith(0, 9999, most/2, 1, most-3, 9998, most-2, 3, most-1, 5000, most, 10000),
	}
}

// takesWhole reports whether a scale takes a whole somewhere.
func takesWhole(s impl.Scale) bool { return slices.Contains(s.Rates, 10000) }

// slowDue returns the exact due, bracket by bracket, by fractions.
func slowDue(s impl.Scale, cents int64) *big.Rat {
	sum := new(big.Rat)
	for i := range s.Breaks {
		end := cents
		if i+1 < len(s.Breaks) && s.Breaks[i+1] < end {
			end = s.Breaks[i+1]
		}
		if s.Breaks[i] < cents {
			part := big.NewRat(end-s.Breaks[i], 10000)
			sum.Add(sum, part.Mul(part, big.NewRat(s.Rates[i], 1)))
		}
	}
	return sum
}

// slowRound rounds a fraction that is not negative by its distance to integers.
func slowRound(x *big.Rat, round int64) int64 {
	low := new(big.Int).Quo(x.Num(), x.Denom()).Int64()
	half := new(big.Rat).Sub(x, big.NewRat(low, 1))
	side := half.Cmp(big.NewRat(1, 2))
	switch {
	case half.Sign() == 0, round == 0:
		return low
	case round == 3:
		return low + 1
	case side < 0, side == 0 && round == 2 && low%2 == 0:
		return low
	}
	return low + 1
}

// besideBreaks has the amounts at all breaks and one cent beside them, and others.
func besideBreaks(s impl.Scale) []int64 {
	all := []int64{0, 1, 2, impl.MaxCents - 1, impl.MaxCents}
	g := lcg(7)
	for _, from := range s.Breaks {
		for n := max(0, from-2); n <= min(impl.MaxCents, from+2); n++ {
			all = append(all, n)
		}
	}
	for range 40 {
		all = append(all, int64(g.next())%100, int64(g.next())%3000000, int64(g.next()*g.next()>>5)%(impl.MaxCents+1))
	}
	slices.Sort(all)
	return slices.Compact(all)
}

func isInt(t *testing.T, what string, got, want int64) {
	t.Helper()
	if got != want {
		t.Errorf("%s: got %d, want %d", what, got, want)
	}
}

func isScale(t *testing.T, what string, got impl.Scale, ok bool, want impl.Scale) {
	t.Helper()
	if !ok || !slices.Equal(got.Breaks, want.Breaks) || !slices.Equal(got.Rates, want.Rates) {
		t.Errorf("%s: got %v %v, want %v", what, got, ok, want)
	}
}
