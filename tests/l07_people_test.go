package tests

import (
	"fmt"
	"math"
	"slices"
	"testing"

	"loop.example/g01393/impl"
)

func TestValidPeople(t *testing.T) {
	for _, p := range goodPeoples() {
		isTrue(t, fmt.Sprintf("ValidPeople(%v)", p), impl.ValidPeople(p))
	}
	for _, p := range badPeoples() {
		isFalse(t, fmt.Sprintf("ValidPeople(%v)", p), impl.ValidPeople(p))
	}
}

func TestSamePeople(t *testing.T) {
	all := append(goodPeoples(), badPeoples()...)
	for i, a := range all {
		isTrue(t, fmt.Sprintf("SamePeople(%v) of a copy", a), impl.SamePeople(a, clonedPeople(a)))
		for _, b := range all[max(0, i-40):i] {
			if got := impl.SamePeople(a, b); got != samePeople(a, b) || got != impl.SamePeople(b, a) {
				t.Errorf("SamePeople(%v, %v): got %v", a, b, got)
			}
		}
	}
	two, other := []float32{1, 0.5}, []float32{1, 0.25}
	base := peopleOf(two, two, two)
	for _, p := range []impl.People{
		peopleOf(other, two, two), peopleOf(two, other, two), peopleOf(two, two, other),
		peopleOf(two[:1], two, two), peopleOf(two, two[:1], two), peopleOf(two, two, two[:1]), {},
		peopleOf(append(slices.Clone(two), 1), two, two), peopleOf([]float32{1}, []float32{0.5, 1}, []float32{0.5, 1, 0.5}),
	} {
		isFalse(t, fmt.Sprintf("SamePeople(%v)", p), impl.SamePeople(base, p) || impl.SamePeople(p, base))
	}
	// All not-a-numbers are one value, but zeros have signs.
	isTrue(t, "SamePeople of not-a-numbers", impl.SamePeople(evenPeople(2, number(bitsNaN), number(bitsOddNaN), 1), evenPeople(2, number(bitsNegNaN), number(bitsNaN), 1)))
	isFalse(t, "SamePeople of zeros", impl.SamePeople(evenPeople(2, 0, 1, 1), evenPeople(2, minusZero(), 1, 1)))
	isFalse(t, "SamePeople of zeros", impl.SamePeople(evenPeople(2, 1, 0, 1), evenPeople(2, 1, minusZero(), 1)))
	isFalse(t, "SamePeople of zeros", impl.SamePeople(evenPeople(2, 1, 1, 0), evenPeople(2, 1, 1, minusZero())))
	isTrue(t, "SamePeople of none", impl.SamePeople(impl.People{}, evenPeople(0, 1, 1, 1)))
}

func TestNextPeople(t *testing.T) {
	for _, c := range []struct{ counts, stays, births, want []float32 }{
		{[]float32{10, 4}, []float32{0.5, 0}, []float32{1, 0}, []float32{10, 5}},
		{[]float32{10, 4}, []float32{0.5, 0.25}, []float32{1, 0}, []float32{10, 6}},
		{[]float32{10, 4}, []float32{1, 1}, []float32{0, 0}, []float32{0, 14}},
		{[]float32{10, 4}, []float32{0, 1}, []float32{0, 3}, []float32{12, 4}},
		{[]float32{10, 4}, []float32{0, 0}, []float32{0, 0}, []float32{0, 0}},
		{[]float32{1, 2, 4}, []float32{0.5, 0.25, 0.125}, []float32{1, 10, 100}, []float32{421, 0.5, 1}},
		{[]float32{1, 2, 4, 8}, []float32{1, 1, 1, 1}, []float32{0, 0, 0, 0}, []float32{0, 1, 2, 12}},
		{[]float32{0, 0, 0}, []float32{1, 1, 1}, []float32{1, 1, 1}, []float32{0, 0, 0}},
		// Zeros keep their signs in products; the births begin with +0.
		{[]float32{minusZero(), minusZero(), minusZero()}, []float32{1, 1, 1}, []float32{1, 1, 1}, []float32{0, minusZero(), minusZero()}},
		{[]float32{minusZero(), 0, 1}, []float32{1, 1, minusZero()}, []float32{0, 0, 0}, []float32{0, minusZero(), 0}},
		{[]float32{1, 1, 1}, []float32{minusZero(), minusZero(), minusZero()}, []float32{0, 0, 0}, []float32{0, minusZero(), minusZero()}},
		// Each sum is rounded, in order.
		{[]float32{16777216, 1, 1}, []float32{0, 0, 0}, []float32{1, 1, 1}, []float32{16777216, 0, 0}},
		{[]float32{1, 1, 16777216}, []float32{0, 0, 0}, []float32{1, 1, 1}, []float32{16777218, 0, 0}},
		{[]float32{0, 16777216, 1}, []float32{0, 1, 1}, []float32{0, 0, 0}, []float32{0, 0, 16777216}},
		{[]float32{number(bitsLeast), number(bitsLeast)}, []float32{0.5, 0.5}, []float32{0.75, 0.5}, []float32{number(bitsLeast), 0}},
		{[]float32{number(bitsMost), 0}, []float32{1, 1}, []float32{1, number(bitsMost)}, []float32{number(bitsMost), number(bitsMost)}},
	} {
		p := peopleOf(c.counts, c.stays, c.births)
		got, ok := impl.NextPeople(p)
		isPeople(t, fmt.Sprintf("NextPeople(%v)", p), got, ok, peopleOf(c.want, c.stays, c.births))
	}
	most := number(bitsMost)
	for _, p := range []impl.People{
		evenPeople(2, most, 0, 1),   // the births are infinite together
		evenPeople(2, most, 0, 1.5), // one product is
		peopleOf([]float32{most, 0}, []float32{0, 0}, []float32{number(0x3f800001), 0}),
		evenPeople(2, most, 1, 0), // the last age is
		peopleOf([]float32{0, most, most}, []float32{0, 1, 1}, []float32{0, 0, 0}),
		evenPeople(impl.MaxAges, most, 0, most),
	} {
		isNone(t, fmt.Sprintf("NextPeople(%v)", p), results(impl.NextPeople(p)))
	}
	for _, p := range badPeoples() {
		isNone(t, fmt.Sprintf("NextPeople(%v)", p), results(impl.NextPeople(p)))
	}
}

func TestNextPeopleStepByStep(t *testing.T) {
	g := lcg(174)
	infinite := 0
	for range 20000 {
		p := g.people()
		want, what := slowNext(p), fmt.Sprintf("NextPeople(%v)", p)
		got, ok := impl.NextPeople(p)
		if !allAre(want.Counts, finite) {
			isNone(t, what, results(got, ok))
			infinite++
			continue
		}
		isPeople(t, what, got, ok, want)
	}
	isTrue(t, fmt.Sprintf("some are infinite: %d", infinite), infinite > 50 && infinite < 3000)
}

func TestRunPeople(t *testing.T) {
	failures := 0
	for _, p := range goodPeoples() {
		want, valid := clonedPeople(p), true
		for years := range int64(impl.MaxYears + 1) {
			what := fmt.Sprintf("RunPeople(%v, %d)", p, years)
			got, ok := impl.RunPeople(p, years)
			if valid {
				isPeople(t, what, got, ok, want)
			} else {
				isNone(t, what, results(got, ok))
				failures++
			}
			want = slowNext(want)
			valid = valid && allAre(want.Counts, finite) // and never again
		}
		for _, years := range []int64{-1, impl.MaxYears + 1, math.MinInt64, math.MaxInt64} {
			isNone(t, fmt.Sprintf("RunPeople(%v, %d)", p, years), results(impl.RunPeople(p, years)))
		}
	}
	isTrue(t, fmt.Sprintf("some fail: %d", failures), failures > 500)
	for _, p := range badPeoples() {
		isNone(t, fmt.Sprintf("RunPeople(%v, 0)", p), results(impl.RunPeople(p, 0)))
		isNone(t, fmt.Sprintf("RunPeople(%v, 2)", p), results(impl.RunPeople(p, 2)))
	}
}

func TestSumPeople(t *testing.T) {
	p := peopleOf([]float32{1, 2, 4, 8}, []float32{0, 0, 0, 0}, []float32{0, 0, 0, 0})
	for from, row := range [][]float32{{1, 3, 7, 15}, {-1, 2, 6, 14}, {-1, -1, 4, 12}, {-1, -1, -1, 8}} {
		for to, want := range row {
			got, ok := impl.SumPeople(p, int64(from), int64(to))
			if want < 0 {
				isNone(t, fmt.Sprintf("SumPeople(%d, %d)", from, to), results(got, ok))
				continue
			}
			isReal(t, fmt.Sprintf("SumPeople(%d, %d)", from, to), got, ok, want)
		}
	}
	for _, c := range [][2]int64{{-1, 2}, {0, 4}, {4, 4}, {-1, -1}, {math.MinInt64, math.MaxInt64}, {math.MinInt64, 0}, {0, math.MaxInt64}} {
		isNone(t, fmt.Sprintf("SumPeople(%v)", c), results(impl.SumPeople(p, c[0], c[1])))
	}
	got, ok := impl.SumPeople(evenPeople(3, minusZero(), 0, 0), 0, 0)
	isReal(t, "SumPeople of -0", got, ok, 0) // it begins with +0
	got, ok = impl.SumPeople(peopleOf([]float32{16777216, 1, 1}, p.Stays[:3], p.Births[:3]), 0, 2)
	isReal(t, "SumPeople in order", got, ok, 16777216)
	got, ok = impl.SumPeople(peopleOf([]float32{1, 1, 16777216}, p.Stays[:3], p.Births[:3]), 0, 2)
	isReal(t, "SumPeople in order", got, ok, 16777218)
	many := evenPeople(3, number(bitsMost), 0, 0)
	got, ok = impl.SumPeople(many, 1, 1)
	isReal(t, "SumPeople of as many as there may be", got, ok, number(bitsMost))
	isNone(t, "SumPeople that is infinite", results(impl.SumPeople(many, 1, 2)))
	for _, p := range goodPeoples() {
		last := int64(len(p.Counts)) - 1
		for from := range last + 1 {
			for to := from; to <= last; to++ {
				got, ok := impl.SumPeople(p, from, to)
				what, want := fmt.Sprintf("SumPeople(%v, %d, %d)", p, from, to), slowSum(p.Counts[from:to+1])
				if !finite(want) {
					isNone(t, what, results(got, ok))
					continue
				}
				isReal(t, what, got, ok, want)
			}
		}
	}
	for _, p := range badPeoples() {
		isNone(t, fmt.Sprintf("SumPeople(%v)", p), results(impl.SumPeople(p, 0, 0)))
	}
}

func TestGrowthOf(t *testing.T) {
	for _, c := range []struct {
		p      impl.People
		rounds int64
		growth float32
		shares []float32
	}{
		{peopleOf([]float32{10, 4}, []float32{0.5, 0}, []float32{1, 0}), 1, 15.0 / 14, []float32{2.0 / 3, 1.0 / 3}},
		{peopleOf([]float32{10, 4}, []float32{0.5, 0}, []float32{1, 0}), 2, 1, []float32{2.0 / 3, 1.0 / 3}},
		{evenPeople(2, 1, 1, 1), 1, 2, []float32{0.5, 0.5}},
		{evenPeople(2, 1, 1, 1), impl.MaxYears, 2, []float32{0.5, 0.5}},
		{evenPeople(2, 1, 1, 0), 1, 1, []float32{0, 1}},
		{evenPeople(2, 3, 0.5, 0), 1, 0.5, []float32{0, 1}},
		{evenPeople(2, 3, 0.5, 0), impl.MaxYears, 0.5, []float32{0, 1}}, // the sum is 1 again each year, so that nothing gets lost
		{evenPeople(4, 1, 0, 2), 1, 2, []float32{1, 0, 0, 0}},
		{peopleOf([]float32{4, 4}, []float32{1, 0}, []float32{0, 0}), 1, 0.5, []float32{0, 1}},
		{peopleOf([]float32{1, 3}, []float32{1, 0}, []float32{0, 1}), 1, 1, []float32{0.75, 0.25}},
		{peopleOf([]float32{1, 3}, []float32{1, 0}, []float32{0, 1}), 2, 1, []float32{0.25, 0.75}},
		{peopleOf([]float32{4, minusZero(), 4}, []float32{0, 1, 1}, []float32{0, 0, 0}), 1, 0.5, []float32{0, 0, 1}},
		{evenPeople(2, 0x1p125, 0, 2), 1, 2, []float32{1, 0}},
		{evenPeople(2, 1, 0, number(bitsLeast)), 1, number(bitsLeast), []float32{1, 0}},
		{evenPeople(2, 1e30, 0, 1e-38), 1, number(0x006ce3ee), []float32{1, 0}},
	} {
		growth, shares, ok := impl.GrowthOf(c.p, c.rounds)
		what := fmt.Sprintf("GrowthOf(%v, %d)", c.p, c.rounds)
		isReal(t, what, growth, ok, c.growth)
		isReals(t, "shares of "+what, shares, ok, c.shares...)
	}
	most := number(bitsMost)
	for _, c := range []struct {
		p      impl.People
		rounds int64
	}{
		{evenPeople(2, 0, 1, 1), 1}, // nobody is there
		{evenPeople(2, minusZero(), 1, 1), 1},
		{evenPeople(2, 1, 0, 0), 1}, // nobody is left
		{peopleOf([]float32{4, 4}, []float32{1, 0}, []float32{0, 0}), 2},
		{evenPeople(2, number(bitsLeast), 0.25, 0.25), 1},
		{peopleOf([]float32{1, 1, 1}, []float32{1, 1, 0}, []float32{0, 0, 0}), 3},
		{peopleOf([]float32{1, 1, 1}, []float32{1, 1, 0}, []float32{0, 0, 0}), impl.MaxYears},
		{evenPeople(2, most, 0.25, 0), 1},                                                  // the sum before is infinite, but that behind is not
		{peopleOf([]float32{most, 0}, []float32{1, 0}, []float32{1, 0}), 1},                // the sum behind is infinite, but that before is not
		{peopleOf([]float32{1, 1}, []float32{0, 0}, []float32{most, most}), 1},             // a count behind is infinite
		{peopleOf([]float32{number(bitsLeast), 0}, []float32{0, 0}, []float32{0.5, 0}), 1}, // rounded to nobody
		{evenPeople(2, 1, 1, 1), 0}, {evenPeople(2, 1, 1, 1), -1}, {evenPeople(2, 1, 1, 1), impl.MaxYears + 1}, {evenPeople(2, 1, 1, 1), math.MaxInt64},
	} {
		isNone(t, fmt.Sprintf("GrowthOf(%v, %d)", c.p, c.rounds), results(impl.GrowthOf(c.p, c.rounds)))
	}
	for _, p := range badPeoples() {
		isNone(t, fmt.Sprintf("GrowthOf(%v, 1)", p), results(impl.GrowthOf(p, 1)))
	}
}

func TestGrowthOfStepByStep(t *testing.T) {
	failures := 0
	for _, p := range goodPeoples() {
		now, alive := clonedPeople(p), true
		for rounds := int64(1); rounds <= impl.MaxYears; rounds++ {
			var growth float32
			if alive {
				next := slowNext(now)
				before, behind := slowSum(now.Counts), slowSum(next.Counts)
				alive = finite(before) && before > 0 && finite(behind) && behind > 0
				growth = div(behind, before)
				for age := range next.Counts {
					next.Counts[age] = div(next.Counts[age], behind)
				}
				now = next
			}
			got, shares, ok := impl.GrowthOf(p, rounds)
			what := fmt.Sprintf("GrowthOf(%v, %d)", p, rounds)
			if !alive {
				isNone(t, what, results(got, shares, ok))
				failures++
				continue
			}
			isReal(t, what, got, ok, growth)
			isReals(t, "shares of "+what, shares, ok, now.Counts...)
		}
	}
	isTrue(t, fmt.Sprintf("some fail: %d", failures), failures > 500)
}

// slowProduct returns a product of complex numbers by its parts.
func slowProduct(x, y complex64) complex64 {
	a, b, c, d := float64(real(x)), float64(imag(x)), float64(real(y)), float64(imag(y))
	return complex(float32(float64(a*c)-float64(b*d)), float32(float64(a*d)+float64(b*c)))
}

// slowInverse returns the quotient of 1 and a complex number that is not 0.
func slowInverse(z complex64) complex64 {
	a, b := float64(real(z)), float64(imag(z))
	power := plus(times(a, a), times(b, b))
	re, im := minus(a, times(0, -b)), plus(-b, times(0, a))
	return complex(float32(over(re, power)), float32(over(im, power)))
}

// slowRenewal has a product for each age, from the first stay on.
func slowRenewal(p impl.People, z complex64) complex64 {
	var re, im float32
	for i := range p.Births {
		w, s := slowInverse(z), float32(1)
		for k := range i {
			w, s = slowProduct(w, slowInverse(z)), mul(s, p.Stays[k])
		}
		by := mul(p.Births[i], s)
		re, im = add(re, mul(real(w), by)), add(im, mul(imag(w), by))
	}
	return complex(re, im)
}

func isRenewal(t *testing.T, what string, got complex64, ok bool, want complex64) {
	t.Helper()
	isTrue(t, what, ok)
	isComplex(t, what, got, bitsOf(real(want)), bitsOf(imag(want)))
}

func TestRenewalAt(t *testing.T) {
	two := peopleOf([]float32{10, 4}, []float32{0.5, 0}, []float32{1, 0})
	three := peopleOf([]float32{0, 0, 0}, []float32{0.5, 0.25, 1}, []float32{1, 2, 8})
	for _, c := range []struct {
		p       impl.People
		z, want complex64
	}{
		{two, 1, 1},
		{two, 2, 0.5},
		{two, complex(0, 1), complex(0, -1)},
		{two, -1, -1},
		{three, 1, 3},
		{three, 2, 0.5 + 0.25 + 0.125},
		{three, -1, -1 + 1 - 1},
		{three, complex(0, 1), complex(-1, -1+1)}, // -i, -1 and i
		{three, complex(0, 2), complex(-0.25, -0.5+0.125)},
		{three, complex(1, 1), complex(0.5-0.25, -0.5-0.5-0.25)},
		{evenPeople(2, 1, 1, 0), 1, 0},
		{evenPeople(2, 1, 1, 0), complex(0, 1), complex(0, 0)},
		{peopleOf([]float32{1, 1}, []float32{0, 1}, []float32{0, 5}), 1, 0},
		{peopleOf([]float32{1, 1}, []float32{1, 0}, []float32{0, 5}), 2, 1.25},
		{two, complex(number(bitsMost), 0), complex(float32(1/float64(number(bitsMost))), 0)},
		{two, 0x1p-60, 0x1p60},
	} {
		got, ok := impl.RenewalAt(c.p, c.z)
		isTrue(t, fmt.Sprintf("RenewalAt(%v, %v): got %v, want %v", c.p, c.z, got, c.want), ok && got == c.want)
	}
	// The last age's stay is not looked at, but valid.
	for _, stay := range []float32{0, minusZero(), 0.5, 1} {
		p := clonedPeople(three)
		p.Stays[2] = stay
		got, ok := impl.RenewalAt(p, complex(1, 1))
		isRenewal(t, "RenewalAt with any last stay", got, ok, complex(0.25, -1.25))
	}
	for _, z := range []complex64{0, complex(minusZero(), 0), complex(0, minusZero()), complex(minusZero(), minusZero())} {
		isNone(t, "RenewalAt 0", results(impl.RenewalAt(two, z)))
	}
	for _, x := range notFinite() {
		for _, z := range []complex64{complex(x, 1), complex(1, x), complex(x, 0), complex(0, x), complex(x, x)} {
			isNone(t, fmt.Sprintf("RenewalAt(%v)", z), results(impl.RenewalAt(two, z)))
		}
	}
	for _, p := range badPeoples() {
		isNone(t, fmt.Sprintf("RenewalAt(%v)", p), results(impl.RenewalAt(p, 1)))
	}
}

// A sum of which a part is not finite is none, whichever part it is.
func TestRenewalAtNotFinite(t *testing.T) {
	many := peopleOf([]float32{1, 1}, []float32{1, 1}, []float32{number(bitsMost), 0})
	for _, c := range []struct {
		p impl.People
		z complex64
	}{
		{many, 0.5},
		{many, -0.5},
		{many, complex(0, 0.5)},
		{many, complex(0.25, 0.01)},
		{evenPeople(2, 1, 1, 1), complex(0, number(bitsLeast))}, // 1 / z is infinite
		{evenPeople(2, 1, 1, 0), complex(number(bitsLeast), 0)}, // and that times 0 is none
		{evenPeople(2, 1, 1, 1), 0x1p-100},                      // the second power is infinite
		{peopleOf([]float32{1, 1}, []float32{0, 1}, []float32{1, 1}), 0x1p-100},
		{peopleOf([]float32{1, 1}, []float32{1, 1}, []float32{1, 0}), 0x1p-100},
		{peopleOf([]float32{1, 1}, []float32{1, 1}, []float32{number(bitsMost), number(bitsMost)}), 1},
	} {
		isNone(t, fmt.Sprintf("RenewalAt(%v, %v)", c.p, c.z), results(impl.RenewalAt(c.p, c.z)))
	}
}

func TestRenewalAtStepByStep(t *testing.T) {
	g := lcg(175)
	failures := 0
	for range 3000 {
		p := g.people()
		z := complex(float32(g.below(4000)-2000)/1000, float32(g.below(4000)-2000)/1000)
		switch g.below(6) {
		case 0:
			z = complex(real(z), 0)
		case 1:
			z = complex(0, imag(z))
		case 2:
			z = complex(real(z), minusZero())
		case 3:
			z = pair(g.bits(), g.bits())
		case 4:
			z = complex(real(z)*0x1p-60, imag(z)*0x1p-60)
		}
		if z == 0 || !finite(real(z)) || !finite(imag(z)) {
			continue
		}
		got, ok := impl.RenewalAt(p, z)
		what, want := fmt.Sprintf("RenewalAt(%v, %v)", p, z), slowRenewal(p, z)
		if !finite(real(want)) || !finite(imag(want)) {
			isNone(t, what, results(got, ok))
			failures++
			continue
		}
		isRenewal(t, what, got, ok, want)
	}
	isTrue(t, fmt.Sprintf("some fail: %d", failures), failures > 50 && failures < 1500)
}

func TestLifeLeft(t *testing.T) {
	almost := number(0x3f7fffff)
	for _, c := range []struct{ stays, want []float32 }{
		{[]float32{0.5, 0}, []float32{0.5, 0}},
		{[]float32{0.5, 0.5}, []float32{1, 1}},
		{[]float32{1, 0.5}, []float32{2, 1}},
		{[]float32{1, 0}, []float32{1, 0}},
		{[]float32{0, 0.75}, []float32{0, 3}},
		{[]float32{0, 0}, []float32{0, 0}},
		{[]float32{minusZero(), minusZero()}, []float32{minusZero(), minusZero()}},
		{[]float32{1, 1, 1, 0}, []float32{3, 2, 1, 0}},
		{[]float32{0.5, 1, 0.25, 0.5}, []float32{1.25, 1.5, 0.5, 1}},
		{[]float32{1, almost}, []float32{16777216, 16777215}},
		{slices.Repeat([]float32{0.5}, impl.MaxAges), slices.Repeat([]float32{1}, impl.MaxAges)},
		{[]float32{1, number(bitsLeast)}, []float32{1, number(bitsLeast)}},
	} {
		p := evenPeople(len(c.stays), 1, 0, 1)
		p.Stays = c.stays
		got, ok := impl.LifeLeft(p)
		isReals(t, fmt.Sprintf("LifeLeft of %v", c.stays), got, ok, c.want...)
		p.Stays = slices.Clone(c.stays)
		p.Stays[len(p.Stays)-1] = 1
		isNone(t, fmt.Sprintf("LifeLeft of %v", p.Stays), results(impl.LifeLeft(p)))
	}
	for _, p := range badPeoples() {
		isNone(t, fmt.Sprintf("LifeLeft(%v)", p), results(impl.LifeLeft(p)))
	}
	for _, p := range goodPeoples() {
		last := len(p.Stays) - 1
		got, ok := impl.LifeLeft(p)
		if p.Stays[last] == 1 {
			isNone(t, fmt.Sprintf("LifeLeft(%v)", p), results(got, ok))
			continue
		}
		want := []float32{div(p.Stays[last], sub(1, p.Stays[last]))}
		for _, stay := range slices.Backward(p.Stays[:last]) {
			want = slices.Insert(want, 0, mul(stay, add(1, want[0])))
		}
		isReals(t, fmt.Sprintf("LifeLeft(%v)", p), got, ok, want...)
	}
}

func TestPeopleRate(t *testing.T) {
	p := peopleOf([]float32{10, 4, 0, 2}, []float32{0, 0, 0, 0}, []float32{0, 0, 0, 0})
	for _, c := range []struct {
		work, old   int64
		share, want float32
	}{
		{0, 1, 0.5, 0.3},
		{0, 1, 1, 0.6},
		{0, 3, 1, div(2, 14)},
		{0, 2, 1, div(2, 14)},
		{1, 3, 1, 0.5},
		{1, 2, 8, 4},
		{1, 3, 0, 0},
		{1, 3, minusZero(), minusZero()},
		{1, 3, -1, -0.5},
		{0, 3, number(bitsMost), mul(number(bitsMost), div(2, 14))},
		{1, 3, number(bitsMost), number(0x7effffff)},
	} {
		got, ok := impl.PeopleRate(p, c.work, c.old, c.share)
		isReal(t, fmt.Sprintf("PeopleRate(%d, %d, %v)", c.work, c.old, c.share), got, ok, c.want)
	}
	for _, c := range [][2]int64{
		{2, 3},                                 // nobody works
		{1, 1}, {0, 0}, {3, 3}, {2, 1}, {3, 0}, // work is not less than old
		{-1, 1}, {0, 4}, {3, 4}, {4, 5}, {-2, -1}, {math.MinInt64, 1}, {0, math.MaxInt64}, {0, math.MinInt64}, {math.MinInt64, math.MinInt64}, {math.MaxInt64, math.MaxInt64},
	} {
		isNone(t, fmt.Sprintf("PeopleRate(%d, %d)", c[0], c[1]), results(impl.PeopleRate(p, c[0], c[1], 0.5)))
	}
	for _, share := range notFinite() {
		isNone(t, fmt.Sprintf("PeopleRate of the share %v", share), results(impl.PeopleRate(p, 0, 1, share)))
	}
	for _, p := range badPeoples() {
		isNone(t, fmt.Sprintf("PeopleRate(%v)", p), results(impl.PeopleRate(p, 0, 1, 0.5)))
	}
}

func TestPeopleRateNotFinite(t *testing.T) {
	counts := func(list ...float32) impl.People {
		return peopleOf(list, make([]float32, len(list)), make([]float32, len(list)))
	}
	most, least := number(bitsMost), number(bitsLeast)
	for _, p := range []impl.People{
		counts(minusZero(), 5), counts(0, 5), counts(least, most), counts(1, most, most), counts(0.5, most),
	} {
		isNone(t, fmt.Sprintf("PeopleRate(%v)", p), results(impl.PeopleRate(p, 0, 1, 2)))
	}
	isNone(t, "PeopleRate of 0 times an infinity", results(impl.PeopleRate(counts(least, most), 0, 1, 0)))
	isNone(t, "PeopleRate of too many who work", results(impl.PeopleRate(counts(most, most, 1), 0, 2, 0.5)))
	got, ok := impl.PeopleRate(counts(least, least), 0, 1, most)
	isReal(t, "PeopleRate of few", got, ok, most)
	got, ok = impl.PeopleRate(counts(most, 0), 0, 1, most)
	isReal(t, "PeopleRate of nobody", got, ok, 0)
}

func TestPeopleRateStepByStep(t *testing.T) {
	g := lcg(176)
	failures := 0
	for _, p := range goodPeoples() {
		for range 10 {
			old := 1 + g.below(int64(len(p.Counts))-2)
			work := g.below(old - 1)
			share := g.heads() * float32(g.one(-1, 1))
			paid, paying := slowSum(p.Counts[old:]), slowSum(p.Counts[work:old])
			want := mul(share, div(paid, paying))
			got, ok := impl.PeopleRate(p, work, old, share)
			what := fmt.Sprintf("PeopleRate(%v, %d, %d, %v)", p, work, old, share)
			if !finite(paid) || !finite(paying) || paying == 0 || !finite(want) {
				isNone(t, what, results(got, ok))
				failures++
				continue
			}
			isReal(t, what, got, ok, want)
		}
	}
	isTrue(t, fmt.Sprintf("some fail: %d", failures), failures > 100 && failures < 2000)
}
