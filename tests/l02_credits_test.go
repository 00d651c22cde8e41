package tests

import (
	"fmt"
	"testing"

	"loop.example/g01393/impl"
)

func TestCreditOf(t *testing.T) {
	const most = impl.MaxCents
	for _, c := range []struct{ due, credit, kept, back int64 }{
		{50, 80, 0, -30},
		{80, 50, 30, 30},
		{80, 80, 0, 0},
		{79, 80, 0, -1},
		{0, 0, 0, 0},
		{0, most, 0, -most},
		{most, 0, most, most},
		{most, most, 0, 0},
	} {
		kept, one := impl.CreditOf(c.due, c.credit, false)
		back, two := impl.CreditOf(c.due, c.credit, true)
		if !one || !two || kept != c.kept || back != c.back {
			t.Errorf("CreditOf(%d, %d, _): got %d %v and %d %v, want %d and %d", c.due, c.credit, kept, one, back, two, c.kept, c.back)
		}
	}
}

func TestTaperOf(t *testing.T) {
	const most = impl.MaxCents
	for _, c := range []struct{ full, start, rate, cents, want int64 }{
		{100, 1000, 5000, 1101, 49},
		{100, 1000, 5000, 1100, 50},
		{100, 1000, 5000, 0, 100},
		{100, 1000, 5000, 999, 100},
		{100, 1000, 5000, 1000, 100},
		{100, 1000, 5000, 1001, 99},
		{100, 1000, 5000, 1002, 99},
		{100, 1000, 1, 1001, 99},
		{100, 1000, 5000, 1198, 1},
		{100, 1000, 5000, 1199, 0},
		{100, 1000, 5000, 1200, 0},
		{100, 1000, 5000, 1201, 0},
		{100, 1000, 5000, most, 0},
		{100, 1000, 0, most, 100},
		{100, 1000, 10000, 1099, 1},
		{100, 1000, 10000, 1100, 0},
		{0, 1000, 0, 5, 0},
		{0, 0, 10000, most, 0},
		{most, 0, 10000, most, 0},
		{most, 0, 10000, most - 1, 1},
		{most, 0, 9999, most, 100000000},
		{most, most, 10000, most, most},
	} {
		got, ok := impl.TaperOf(c.full, c.start, c.rate, c.cents)
		if !ok || got != c.want {
			t.Errorf("TaperOf(%d, %d, %d, %d): got %d %v, want %d", c.full, c.start, c.rate, c.cents, got, ok, c.want)
		}
	}
}

func TestTaperEnd(t *testing.T) {
	const most = impl.MaxCents
	for _, c := range []struct{ full, start, rate, want int64 }{
		{100, 1000, 5000, 1199},
		{100, 1000, 10000, 1100},
		{100, 1000, 9999, 1100},
		{100, 1000, 1, 991001},
		{1, 0, 10000, 1},
		{1, 0, 1, 1},
		{1, most - 1, 1, most},
		{2, 0, 1, 10001},
		{0, 0, 0, 0},
		{0, most, 0, 0},
		{0, 500, 10000, 0},
		{most, 0, 10000, most},
		{100000000, 0, 1, most - 9999},
		{100000000, 9999, 1, most},
		{100, most - 100, 10000, most},
	} {
		got, ok := impl.TaperEnd(c.full, c.start, c.rate)
		if !ok || got != c.want {
			t.Errorf("TaperEnd(%d, %d, %d): got %d %v, want %d", c.full, c.start, c.rate, got, ok, c.want)
		}
	}
	for _, c := range [][3]int64{{1, 0, 0}, {most, most, 0}, {1, most, 10000}, {most, 0, 9999}, {100000000, 10000, 1}, {100, most - 99, 10000}, {most, most, 1}} {
		isTrue(t, fmt.Sprintf("TaperEnd%v fails", c), failed(results(impl.TaperEnd(c[0], c[1], c[2]))))
	}
}

// The end of a taper is the first amount at which nothing is left.
func TestTaperEndIsFirst(t *testing.T) {
	for _, rate := range []int64{1, 2, 3, 4999, 5000, 5001, 9999, 10000} {
		for full := range int64(40) {
			for _, start := range []int64{0, 1, 999} {
				end, ok := impl.TaperEnd(full, start, rate)
				left, _ := impl.TaperOf(full, start, rate, end)
				if !ok || left != 0 {
					t.Fatalf("TaperEnd(%d, %d, %d): got %d %v, where %d is left", full, start, rate, end, ok, left)
				}
				if before, _ := impl.TaperOf(full, start, rate, max(0, end-1)); end > 0 && before == 0 {
					t.Fatalf("TaperEnd(%d, %d, %d): got %d, but nothing is left one cent before", full, start, rate, end)
				}
			}
		}
	}
}

func TestNetWithTaper(t *testing.T) {
	const most = impl.MaxCents
	steps, none := scaleWith(0, 1000, 1000, 2000), scaleWith(0, 0)
	for _, c := range []struct {
		s                                     impl.Scale
		full, start, rate, cents, round, want int64
	}{
		{steps, 100, 1000, 5000, 1100, 0, 1030},
		{steps, 100, 1000, 5000, 1101, 0, 1030},
		{steps, 100, 1000, 5000, 1101, 3, 1029},
		{steps, 100, 1000, 5000, 0, 0, 100},
		{steps, 100, 1000, 5000, 1199, 0, 1060},
		{steps, 0, 0, 0, 1500, 0, 1300},
		{none, 0, 0, 0, most, 0, most},
		{none, 1, 0, 0, most - 1, 0, most},
		{none, most, most, 0, 0, 0, most},
		{none, most, 0, 10000, most, 0, most},
	} {
		got, ok := impl.NetWithTaper(c.s, c.full, c.start, c.rate, c.cents, c.round)
		if !ok || got != c.want {
			t.Errorf("NetWithTaper(%v): got %d %v, want %d", c, got, ok, c.want)
		}
	}
	// A sum above MaxCents is no amount.
	isTrue(t, "NetWithTaper beyond MaxCents fails", failed(results(impl.NetWithTaper(none, 1, 0, 0, most, 0))))
	isTrue(t, "NetWithTaper beyond MaxCents fails", failed(results(impl.NetWithTaper(none, most, most, 0, 1, 0))))
}

func TestRateWithTaper(t *testing.T) {
	const most = impl.MaxCents
	steps, whole := scaleWith(0, 1000, 1000, 2000), scaleWith(0, 10000)
	for _, c := range []struct {
		s                              impl.Scale
		full, start, rate, cents, want int64
	}{
		{steps, 100, 1000, 5000, 1100, 7000},
		{steps, 100, 1000, 5000, 1000, 7000},
		{steps, 100, 1000, 5000, 999, 1000},
		{steps, 100, 500, 5000, 500, 6000},
		{steps, 100, 1000, 5000, 1198, 7000},
		{steps, 100, 1000, 5000, 1199, 2000},
		{steps, 0, 1000, 5000, 1100, 2000},
		{steps, 0, 0, 5000, 0, 1000},
		{steps, 100, 1000, 0, most, 2000},
		{whole, most, 0, 10000, 0, 20000},
		{whole, most, 0, 10000, most - 1, 20000},
		{whole, most, 0, 10000, most, 10000},
		{whole, 1, most, 10000, most, 20000},
	} {
		got, ok := impl.RateWithTaper(c.s, c.full, c.start, c.rate, c.cents)
		if !ok || got != c.want {
			t.Errorf("RateWithTaper(%v): got %d %v, want %d", c, got, ok, c.want)
		}
	}
}

func TestCliffEnd(t *testing.T) {
	const most = impl.MaxCents
	steps, none := scaleWith(0, 1000, 1000, 2000), scaleWith(0, 0)
	for _, c := range []struct {
		s                        impl.Scale
		full, limit, round, want int64
	}{
		{steps, 90, 1000, 0, 1112},
		{steps, 90, 1000, 3, 1113},
		{steps, 0, 1000, 0, 1001},
		{steps, 0, 0, 0, 1},
		{steps, 1, 0, 0, 1},
		{steps, 1, 0, 3, 2},
		{steps, 0, most - 1, 0, most},
		{none, 5, 7, 0, 12},
		{none, most, 0, 0, most},
		{none, 1, most - 1, 0, most},
		{scaleWith(0, 9999), 1, 0, 0, 1},
		{scaleWith(0, 9999), 2, 0, 0, 10001},
		{scaleWith(0, 9999), 1, 1, 0, 10001},
		{scaleWith(0, 9999), 100000000, 0, 3, most},
	} {
		got, ok := impl.CliffEnd(c.s, c.full, c.limit, c.round)
		if !ok || got != c.want {
			t.Errorf("CliffEnd(%v): got %d %v, want %d", c, got, ok, c.want)
		}
	}
	for _, c := range []struct {
		s                  impl.Scale
		full, limit, round int64
	}{
		{none, 0, most, 0},
		{none, 1, most, 0},
		{none, 2, most - 1, 0},
		{none, most, 1, 0},
		{none, most, most, 0},
		{steps, most, 0, 0},
		{scaleWith(0, 9999), 100000001, 0, 0},
		{scaleWith(0, 10000), 0, 0, 0},
		{scaleWith(0, 0, 5000, 10000), 1, 0, 0},
	} {
		isTrue(t, fmt.Sprintf("CliffEnd(%v) fails", c), failed(results(impl.CliffEnd(c.s, c.full, c.limit, c.round))))
	}
}

func TestLeastDue(t *testing.T) {
	const most = impl.MaxCents
	steps := scaleWith(0, 1000, 1000, 2000)
	for _, c := range []struct {
		s                              impl.Scale
		rate, free, cents, round, want int64
	}{
		{steps, 5000, 1000, 1500, 0, 250},
		{steps, 1000, 1000, 1500, 0, 200},
		{steps, 4000, 1000, 1500, 0, 200},
		{steps, 5000, 1000, 1000, 0, 100},
		{steps, 10000, 1000, 999, 0, 99},
		{steps, 10000, 1000, 0, 0, 0},
		{steps, 0, 0, 1500, 0, 200},
		{scaleWith(0, 0), 5000, 0, 1, 0, 0},
		{scaleWith(0, 0), 5000, 0, 1, 1, 1},
		{scaleWith(0, 0), 5000, 0, 1, 2, 0},
		{scaleWith(0, 0), 5000, 0, 3, 2, 2},
		{scaleWith(0, 0), 1, 0, 1, 3, 1},
		{scaleWith(0, 0), 10000, 0, most, 0, most},
		{scaleWith(0, 0), 10000, most, most, 3, 0},
		{scaleWith(0, 0), 10000, most, most - 1, 3, 0},
	} {
		got, ok := impl.LeastDue(c.s, c.rate, c.free, c.cents, c.round)
		if !ok || got != c.want {
			t.Errorf("LeastDue(%v): got %d %v, want %d", c, got, ok, c.want)
		}
	}
}
