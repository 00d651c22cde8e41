package tests

import (
	"fmt"
	"math"
	"math/big"
	"slices"
	"testing"

	"loop.example/g01393/impl"
)

func TestWithholdSums(t *testing.T) {
	const most = impl.MaxCents
	steps := scaleWith(0, 1000, 1000, 2000)
	half := slices.Repeat([]int64{1}, impl.MaxPays)
	for _, c := range []struct {
		s          impl.Scale
		pays, want []int64
		round      int64
	}{
		{steps, []int64{800, 800}, []int64{80, 140}, 0},
		{steps, []int64{800}, []int64{80}, 0},
		{steps, []int64{0}, []int64{0}, 3},
		{steps, []int64{1000, 1, 0, 4}, []int64{100, 0, 0, 1}, 0},
		{steps, []int64{1000, 1, 0, 4}, []int64{100, 1, 0, 0}, 3},
		{scaleWith(0, 5000), []int64{1, 1, 1, 1}, []int64{0, 1, 0, 1}, 0},
		{scaleWith(0, 5000), []int64{1, 1, 1, 1}, []int64{1, 0, 1, 0}, 1},
		{scaleWith(0, 5000), []int64{1, 1, 1, 1}, []int64{0, 1, 1, 0}, 2},
		{scaleWith(0, 10000), []int64{most}, []int64{most}, 0},
		{scaleWith(0, 10000), []int64{most - 1, 1}, []int64{most - 1, 1}, 2},
		{scaleWith(0, 10000), half, half, 1},
	} {
		got, ok := impl.WithholdSums(c.s, c.pays, c.round)
		if !ok || !slices.Equal(got, c.want) {
			t.Errorf("WithholdSums(%v, %v, %d): got %v %v, want %v", c.s, c.pays, c.round, got, ok, c.want)
		}
	}
}

func TestWithholdYears(t *testing.T) {
	const most = impl.MaxCents
	steps := scaleWith(0, 1000, 1000, 2000)
	for _, c := range []struct {
		s          impl.Scale
		pays, want []int64
		round      int64
		rest       int64
	}{
		{steps, []int64{400, 800}, []int64{40, 110}, 0, -10},
		{steps, []int64{1500}, []int64{200}, 0, 0},
		{steps, []int64{0}, []int64{0}, 3, 0},
		{steps, []int64{0, 0, 3000}, []int64{0, 0, 566}, 0, -66},
		{steps, []int64{700, 700, 700}, []int64{106, 106, 106}, 0, 2},
		{scaleWith(0, 5000), []int64{1, 1, 1}, []int64{0, 0, 0}, 0, 1},
		{scaleWith(0, 5000), []int64{1, 1, 1}, []int64{0, 0, 0}, 1, 2},
		{scaleWith(0, 1), []int64{1, 1, 1}, []int64{0, 0, 0}, 3, 1},
		{scaleWith(0, 10000), []int64{most}, []int64{most}, 0, 0},
		{scaleWith(0, 10000), []int64{most / 2, most / 2}, []int64{most / 2, most / 2}, 0, 0},
		{scaleWith(0, 0), slices.Repeat([]int64{16666666666}, impl.MaxPays), make([]int64, impl.MaxPays), 0, 0},
	} {
		got, rest, ok := impl.WithholdYears(c.s, c.pays, c.round)
		if !ok || !slices.Equal(got, c.want) || rest != c.rest {
			t.Errorf("WithholdYears(%v, %v, %d): got %v %d %v, want %v %d", c.s, c.pays, c.round, got, rest, ok, c.want, c.rest)
		}
	}
	// A year of a pay must be an amount, though the sum is one.
	for _, pays := range [][]int64{{most/2 + 1, 0}, {0, most/2 + 1}, {most, 0}, slices.Repeat([]int64{16666666667}, impl.MaxPays), {0, 0, most/3 + 1}} {
		isTrue(t, fmt.Sprintf("WithholdYears of %v fails", pays), failed(results(impl.WithholdYears(steps, pays, 0))))
	}
}

func TestRateCurve(t *testing.T) {
	const most = impl.MaxCents
	for _, c := range []struct {
		s     impl.Scale
		cents []int64
		want  []float32
	}{
		{scaleWith(0, 1000, 1000, 2000), []int64{1000, 1500}, []float32{0.1, 0.13333334}},
		{scaleWith(0, 1000, 1000, 2000), []int64{9, 10, 1}, []float32{0, 0.1, 0}},
		{scaleWith(0, 9999), []int64{1, 10000, 9999}, []float32{0, 0.9999, float32(9998) / 9999}},
		{scaleWith(0, 10000), []int64{1, 16777217, most}, []float32{1, 1, 1}},
		{scaleWith(0, 0), []int64{1, most}, []float32{0, 0}},
	} {
		got, ok := impl.RateCurve(c.s, c.cents)
		if !ok || !slices.Equal(got, c.want) {
			t.Errorf("RateCurve(%v, %v): got %v %v, want %v", c.s, c.cents, got, ok, c.want)
		}
	}
	for _, bad := range [][]int64{{0}, {5, 0}, {0, 5}} {
		isTrue(t, fmt.Sprintf("RateCurve of %v fails", bad), failed(results(impl.RateCurve(scaleWith(0, 100), bad))))
	}
}

// narrowed returns the 32-bit number nearest to a fraction.
func narrowed(x *big.Rat) float32 {
	f, _ := x.Float32()
	return f
}

// Both integers become 32-bit numbers before the one is divided by the other.
func TestRateCurveByFractions(t *testing.T) {
	seen := 0
	for _, s := range goodScales() {
		for _, cents := range besideBreaks(s) {
			if cents == 0 {
				continue
			}
			due := slowRound(slowDue(s, cents), 0)
			above, below := narrowed(big.NewRat(due, 1)), narrowed(big.NewRat(cents, 1))
			want := new(big.Rat).SetFloat64(float64(above))
			want.Quo(want, new(big.Rat).SetFloat64(float64(below)))
			got, ok := impl.RateCurve(s, []int64{cents})
			if !ok || math.Float32bits(got[0]) != math.Float32bits(narrowed(want)) {
				t.Errorf("RateCurve(%v, %d): got %v, want %v", s, cents, got, narrowed(want))
			}
			if narrowed(want) != narrowed(big.NewRat(due, cents)) {
				seen++
			}
		}
	}
	isTrue(t, "some quotients of 32-bit numbers are not the nearest numbers", seen > 0)
}

func TestDuesShared(t *testing.T) {
	steps := scaleWith(0, 1000, 1000, 2000)
	for _, c := range []struct {
		cents, want    []int64
		round, workers int64
	}{
		{[]int64{100, 1100}, []int64{10, 120}, 0, 2},
		{[]int64{100}, []int64{10}, 0, 1},
		{[]int64{100}, []int64{10}, 0, impl.MaxWorkers},
		{[]int64{1500, 1, 0, 1500}, []int64{200, 1, 0, 200}, 3, 3},
		{[]int64{impl.MaxCents, impl.MaxCents, 0}, []int64{199999999900, 199999999900, 0}, 0, 2},
	} {
		got, ok := impl.DuesShared(steps, c.cents, c.round, c.workers)
		if !ok || !slices.Equal(got, c.want) {
			t.Errorf("DuesShared(%v, %d, %d): got %v %v, want %v", c.cents, c.round, c.workers, got, ok, c.want)
		}
	}
}

// Any number of workers makes the same, wherever an amount that is none lies.
func TestDuesSharedByAnyWorkers(t *testing.T) {
	g := lcg(9)
	for _, s := range goodScales() {
		for _, count := range []int{1, 2, 7, 8, 9, 59, impl.MaxPays} {
			var cents, want []int64
			for range count {
				n := int64(g.next()*g.next()>>5) % (impl.MaxCents + 1)
				cents = append(cents, n)
				want = append(want, slowRound(slowDue(s, n), 2))
			}
			bad := slices.Clone(cents)
			bad[g.next()%uint64(count)] = -1 - int64(g.next())
			for workers := int64(1); workers <= impl.MaxWorkers; workers++ {
				got, ok := impl.DuesShared(s, cents, 2, workers)
				if !ok || !slices.Equal(got, want) {
					t.Fatalf("DuesShared(%v, %v, 2, %d): got %v %v, want %v", s, cents, workers, got, ok, want)
				}
				isTrue(t, fmt.Sprintf("DuesShared of %v fails", bad), failed(results(impl.DuesShared(s, bad, 2, workers))))
			}
		}
	}
}
