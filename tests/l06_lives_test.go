package tests

import (
	"fmt"
	"math"
	"math/big"
	"slices"
	"testing"

	"loop.example/g01393/impl"
)

func TestIsLifeTable(t *testing.T) {
	for _, q := range goodLives() {
		isTrue(t, fmt.Sprintf("IsLifeTable(%v)", q), impl.IsLifeTable(q))
	}
	for _, q := range badLives() {
		isFalse(t, fmt.Sprintf("IsLifeTable(%v)", q), impl.IsLifeTable(q))
	}
}

func TestAliveShares(t *testing.T) {
	half := []float32{1}
	for len(half) < impl.MaxLife {
		half = append(half, half[len(half)-1]/2)
	}
	for _, c := range []struct{ q, want []float32 }{
		{[]float32{0.5, 0.5, 1}, []float32{1, 0.5, 0.25}},
		{[]float32{1}, []float32{1}},
		{[]float32{1, 1}, []float32{1, 0}},
		{[]float32{0, 0, 1}, []float32{1, 1, 1}},
		{[]float32{minusZero(), 1, minusZero(), 1}, []float32{1, 1, 0, 0}},
		{[]float32{0.25, 1, 0, 0.5, 1}, []float32{1, 0.75, 0, 0, 0}},
		{[]float32{number(bitsLeast), 1}, []float32{1, 1}},
		{[]float32{number(0x3f7fffff), 1}, []float32{1, 0x1p-24}},
		{append(slices.Repeat([]float32{0.5}, impl.MaxLife-1), 1), half},
	} {
		got, ok := impl.AliveShares(c.q)
		isReals(t, fmt.Sprintf("AliveShares(%v)", c.q), got, ok, c.want...)
	}
}

func TestYearsToLive(t *testing.T) {
	for _, c := range []struct {
		q    []float32
		want float32
	}{
		{[]float32{0.5, 0.5, 1}, 1.25},
		{[]float32{1}, 0.5},
		{[]float32{1, 0, 1}, 0.5},
		{[]float32{0, 1}, 1.5},
		{[]float32{minusZero(), 0, 1, 1}, 2.5},
		{append(make([]float32, impl.MaxLife-1), 1), impl.MaxLife - 0.5},
		{slices.Repeat([]float32{1}, impl.MaxLife), 0.5},
	} {
		got, ok := impl.YearsToLive(c.q)
		isReal(t, fmt.Sprintf("YearsToLive(%v)", c.q), got, ok, c.want)
	}
}

func TestAnnuityValue(t *testing.T) {
	for _, c := range []struct {
		q          []float32
		rate, want float32
	}{
		{[]float32{0.5, 0.5, 1}, 0, 1.75},
		{[]float32{0.5, 0.5, 1}, minusZero(), 1.75},
		{[]float32{0.5, 0.5, 1}, 1, 1.3125},
		{[]float32{1}, 1, 1},
		{[]float32{1}, 0.3, 1},
		{[]float32{1, 0, 1}, 0.3, 1},
		{[]float32{0, 0, 1}, 1, 1.75},
		{append(make([]float32, impl.MaxLife-1), 1), 0, impl.MaxLife},
		{append(make([]float32, impl.MaxLife-1), 1), 1, 2},
	} {
		got, ok := impl.AnnuityValue(c.q, c.rate)
		isReal(t, fmt.Sprintf("AnnuityValue(%v, %v)", c.q, c.rate), got, ok, c.want)
	}
}

func TestLaterValue(t *testing.T) {
	for _, c := range []struct {
		q    []float32
		rate float32
		wait int64
		want float32
	}{
		{[]float32{0.5, 0.5, 1}, 0, 1, 0.75},
		{[]float32{0.5, 0.5, 1}, 0, 0, 1.75},
		{[]float32{0.5, 0.5, 1}, 0, 2, 0.25},
		{[]float32{0.5, 0.5, 1}, 0, 3, 0},
		{[]float32{0.5, 0.5, 1}, 1, 0, 1.3125},
		{[]float32{0.5, 0.5, 1}, 1, 1, 0.3125},
		{[]float32{0.5, 0.5, 1}, 1, 2, 0.0625},
		{[]float32{0.5, 0.5, 1}, 1, 3, 0},
		{[]float32{1}, 1, 1, 0},
		{[]float32{1, 1}, 0, 1, 0},
		{append(make([]float32, impl.MaxLife-1), 1), 1, impl.MaxLife - 1, 0x1p-119},
		{append(make([]float32, impl.MaxLife-1), 1), 1, impl.MaxLife, 0},
	} {
		got, ok := impl.LaterValue(c.q, c.rate, c.wait)
		isReal(t, fmt.Sprintf("LaterValue(%v, %v, %d)", c.q, c.rate, c.wait), got, ok, c.want)
	}
	for _, wait := range []int64{-1, 4, math.MinInt64, math.MaxInt64} {
		isNone(t, fmt.Sprintf("LaterValue behind %d years", wait), results(impl.LaterValue([]float32{0.5, 0.5, 1}, 0, wait)))
	}
}

func TestJointValue(t *testing.T) {
	half := []float32{0.5, 0.5, 1}
	for _, c := range []struct {
		one, two []float32
		rate     float32
		both     bool
		want     float32
	}{
		{half, half, 0, true, 1.3125},
		{half, half, 0, false, 2.1875},
		{half, half, 1, true, 1.140625}, // 1, 1/4 of 1/2 and 1/16 of 1/4
		{half, []float32{1}, 0, true, 1},
		{half, []float32{1}, 0, false, 1.75},
		{[]float32{1}, half, 0, false, 1.75},
		{[]float32{1}, half, 1, false, 1.3125},
		{[]float32{1}, half, 1, true, 1},
		{[]float32{1}, []float32{1}, 0.5, true, 1},
		{[]float32{1}, []float32{1}, 0.5, false, 1},
		{half, []float32{0, 0, 0, 0, 1}, 0, true, 1.75},
		{half, []float32{0, 0, 0, 0, 1}, 0, false, 5},
		{append(make([]float32, impl.MaxLife-1), 1), half, 0, false, impl.MaxLife},
		{append(make([]float32, impl.MaxLife-1), 1), half, 0, true, 1.75},
	} {
		got, ok := impl.JointValue(c.one, c.two, c.rate, c.both)
		isReal(t, fmt.Sprintf("JointValue(%v, %v, %v, %v)", c.one, c.two, c.rate, c.both), got, ok, c.want)
	}
}

func TestAnnuityPay(t *testing.T) {
	half := []float32{0.5, 0.5, 1}
	for _, c := range []struct {
		fund int64
		q    []float32
		rate float32
		want int64
	}{
		{100, half, 0, 57},
		{175, half, 0, 100},
		{174, half, 0, 99},
		{1, half, 0, 0},
		{0, half, 0, 0},
		{0, []float32{1}, 1, 0},
		{1, []float32{1}, 1, 1},
		{1000000, []float32{1}, 0, 1000000},
		{1000000, half, 0, 571428},
		{21, half, 1, 16},
		{20, half, 1, 15},
		{1000000, append(make([]float32, impl.MaxLife-1), 1), 0, 8333},
	} {
		got, ok := impl.AnnuityPay(c.fund, c.q, c.rate)
		isTold(t, fmt.Sprintf("AnnuityPay(%d, %v, %v)", c.fund, c.q, c.rate), got, ok, c.want)
	}
}

func TestReserveRow(t *testing.T) {
	half := []float32{0.5, 0.5, 1}
	for _, c := range []struct {
		q    []float32
		rate float32
		want []float32
	}{
		{half, 0, []float32{1.75, 1.5, 1}},
		{half, minusZero(), []float32{1.75, 1.5, 1}},
		{half, 1, []float32{1.3125, 1.25, 1}},
		{[]float32{1}, 1, []float32{1}},
		{[]float32{0, 1, 0, 1}, 0, []float32{2, 1, 2, 1}},
		{[]float32{0, 0, minusZero(), 1}, 0, []float32{4, 3, 2, 1}},
		{[]float32{0, 0, 0, 1}, 1, []float32{1.875, 1.75, 1.5, 1}},
		{slices.Repeat([]float32{1}, impl.MaxLife), 0, slices.Repeat([]float32{1}, impl.MaxLife)},
	} {
		got, ok := impl.ReserveRow(c.q, c.rate)
		isReals(t, fmt.Sprintf("ReserveRow(%v, %v)", c.q, c.rate), got, ok, c.want...)
	}
}

// Each operation is rounded to a 32-bit number, and sums begin with the first year.
func TestLivesStepByStep(t *testing.T) {
	g := lcg(131)
	for _, q := range goodLives() {
		shares := slowShares(q)
		got, ok := impl.AliveShares(q)
		isReals(t, fmt.Sprintf("AliveShares(%v)", q), got, ok, shares...)
		years, ok := impl.YearsToLive(q)
		isReal(t, fmt.Sprintf("YearsToLive(%v)", q), years, ok, sub(slowValue(shares, 0, 0), 0.5))
		for _, rate := range goodInterest() {
			what := fmt.Sprintf("(%v, %v)", q, rate)
			value := slowValue(shares, rate, 0)
			worth, ok := impl.AnnuityValue(q, rate)
			isReal(t, "AnnuityValue"+what, worth, ok, value)
			for _, wait := range []int64{0, 1, g.below(int64(len(q))), int64(len(q))} {
				worth, ok = impl.LaterValue(q, rate, wait)
				isReal(t, fmt.Sprintf("LaterValue%s behind %d", what, wait), worth, ok, slowValue(shares, rate, int(wait)))
			}
			row, ok := impl.ReserveRow(q, rate)
			isReals(t, "ReserveRow"+what, row, ok, slowReserves(q, rate)...)
			fund := g.below(1000000)
			pay, ok := impl.AnnuityPay(fund, q, rate)
			isTold(t, fmt.Sprintf("AnnuityPay%s of %d", what, fund), pay, ok, int64(math.Floor(float64(div(float32(fund), value)))))
		}
	}
}

// slowReserves returns for each year what the next ones bring, from the last one on.
func slowReserves(q []float32, rate float32) []float32 {
	row := make([]float32, len(q)+1)
	for year := len(q) - 1; year >= 0; year-- {
		factor := div(1, add(1, rate))
		row[year] = add(1, mul(mul(sub(1, q[year]), factor), row[year+1]))
	}
	return row[:len(q)]
}

// slowJoint returns shares of two by the words of the document.
func slowJoint(one, two []float32, both bool) []float32 {
	a, b := slowShares(one), slowShares(two)
	if both {
		a, b = a[:min(len(a), len(b))], b[:min(len(a), len(b))]
	}
	var joint []float32
	for year := range max(len(a), len(b)) {
		var x, y float32
		if year < len(a) {
			x = a[year]
		}
		if year < len(b) {
			y = b[year]
		}
		share := mul(x, y)
		if !both {
			share = sub(add(x, y), share)
		}
		joint = append(joint, share)
	}
	return joint
}

func TestJointValueStepByStep(t *testing.T) {
	all := goodLives()
	fused := 0
	for i, one := range all {
		for k := range 12 {
			two, rate := all[(i+k*k)%len(all)], goodInterest()[(i+k)%len(goodInterest())]
			for _, both := range []bool{false, true} {
				want := slowValue(slowJoint(one, two, both), rate, 0)
				got, ok := impl.JointValue(one, two, rate, both)
				isReal(t, fmt.Sprintf("JointValue(%v, %v, %v, %v)", one, two, rate, both), got, ok, want)
				if exact := exactJoint(one, two, rate, both); got != exact {
					fused++
				}
			}
		}
	}
	isTrue(t, fmt.Sprintf("many are not the nearest numbers: %d", fused), fused > 100)
}

// exactJoint returns the value with fractions that are narrowed at the end.
func exactJoint(one, two []float32, rate float32, both bool) float32 {
	const places = 400
	real := func(x float32) *big.Float { return new(big.Float).SetPrec(places).SetFloat64(float64(x)) }
	sum, x, y, power := real(0), real(1), real(1), real(1)
	for year := range impl.MaxLife {
		share := real(0).Mul(x, y)
		if !both {
			share.Sub(real(0).Add(x, y), share)
		}
		sum.Add(sum, share.Mul(share, power))
		power.Quo(power, real(0).Add(real(1), real(rate)))
		for _, life := range []struct {
			share *big.Float
			q     []float32
		}{{x, one}, {y, two}} {
			chance := real(1)
			if year < len(life.q) {
				chance = real(life.q[year])
			}
			life.share.Mul(life.share, real(0).Sub(real(1), chance))
		}
	}
	narrow, _ := sum.Float32()
	return narrow
}

// Both lives together and one of them at least make the lives by themselves, nearly.
func TestLivesMakeTheWhole(t *testing.T) {
	all := goodLives()
	for i, one := range all {
		two := all[(i*7+3)%len(all)]
		for _, rate := range goodInterest() {
			both, _ := impl.JointValue(one, two, rate, true)
			any, _ := impl.JointValue(one, two, rate, false)
			a, _ := impl.AnnuityValue(one, rate)
			b, _ := impl.AnnuityValue(two, rate)
			what := fmt.Sprintf("(%v, %v, %v): %v and %v of %v and %v", one, two, rate, both, any, a, b)
			isTrue(t, what, math.Abs(float64(both)+float64(any)-float64(a)-float64(b)) < 1e-3)
			isTrue(t, what, both >= 1 && both <= min(a, b)*1.00001 && any*1.00001 >= max(a, b))
			row, _ := impl.ReserveRow(one, rate)
			isTrue(t, "the first reserve is the value"+what, math.Abs(float64(row[0])-float64(a)) < 1e-3)
		}
	}
}
