package tests

import (
	"fmt"
	"math"
	"math/big"
	"slices"
	"testing"

	"loop.example/g01393/impl"
)

// tariffOf returns the tariff with Rate, Piece and Least.
func tariffOf(rate, piece, least int64) impl.Tariff {
	return impl.Tariff{Rate: rate, Piece: piece, Least: least}
}

func badTariffs() []impl.Tariff {
	all := []impl.Tariff{tariffOf(10001, 2, 15), tariffOf(1000, 1000001, 15), tariffOf(1000, 2, 1000001)}
	for _, n := range []int64{-1, math.MinInt64, math.MaxInt64} {
		all = append(all, tariffOf(n, 2, 15), tariffOf(1000, n, 15), tariffOf(1000, 2, n))
	}
	return all
}

func TestValidTariff(t *testing.T) {
	for _, rate := range []int64{0, 1, 9999, 10000} {
		for _, piece := range []int64{0, 1, 1000000} {
			for _, least := range []int64{0, 1, 1000000} {
				isTrue(t, fmt.Sprintf("ValidTariff(%d, %d, %d)", rate, piece, least), impl.ValidTariff(tariffOf(rate, piece, least)))
			}
		}
	}
	for _, tariff := range badTariffs() {
		isFalse(t, fmt.Sprintf("ValidTariff(%v)", tariff), impl.ValidTariff(tariff))
	}
}

func TestCustomsDue(t *testing.T) {
	const most = impl.MaxCents
	for _, c := range []struct {
		tariff               impl.Tariff
		value, pieces, round int64
		want                 int64
	}{
		{tariffOf(1000, 2, 15), 100, 1, 0, 15}, // 12 is below Least
		{tariffOf(1000, 2, 15), 100, 5, 0, 20},
		{tariffOf(1000, 2, 15), 100, 2, 0, 15},
		{tariffOf(1000, 2, 15), 130, 1, 0, 15},
		{tariffOf(1000, 2, 15), 140, 1, 0, 16},
		{tariffOf(1000, 2, 15), 0, 0, 0, 0},
		{tariffOf(1000, 2, 15), 0, 1, 0, 15},
		{tariffOf(1000, 2, 15), 1, 0, 0, 15},
		{tariffOf(1000, 2, 15), 0, 8, 0, 16},
		{tariffOf(1000, 2, 0), 155, 1, 0, 17},
		{tariffOf(1000, 2, 0), 155, 1, 1, 18},
		{tariffOf(1000, 2, 0), 155, 1, 2, 18},
		{tariffOf(1000, 2, 0), 165, 1, 2, 18},
		{tariffOf(1000, 2, 0), 151, 1, 3, 18},
		{tariffOf(0, 0, 0), most, 100000, 3, 0},
		{tariffOf(0, 0, 1000000), most, 100000, 0, 1000000},
		{tariffOf(0, 1000000, 0), 0, 100000, 0, 100000000000},
		{tariffOf(10000, 0, 1000000), most, 100000, 0, most},
		{tariffOf(10000, 1, 0), most - 1, 1, 0, most},
		{tariffOf(10000, 1, 0), most, 1, 0, -1},
		{tariffOf(10000, 1000000, 0), most - 100000000000, 100000, 0, most},
		{tariffOf(10000, 1000000, 0), most - 100000000000 + 1, 100000, 0, -1},
		{tariffOf(10000, 1000000, 0), most, 100000, 0, -1},
		{tariffOf(9000, 1000000, 0), most, 100000, 3, most},
	} {
		got, ok := impl.CustomsDue(c.tariff, c.value, c.pieces, c.round)
		what := fmt.Sprintf("CustomsDue(%v, %d, %d, %d)", c.tariff, c.value, c.pieces, c.round)
		if c.want < 0 {
			isNone(t, what, results(got, ok))
			continue
		}
		isTold(t, what, got, ok, c.want)
	}
}

// slowCustoms returns the due by a tariff, by exact fractions.
func slowCustoms(tariff impl.Tariff, value, pieces, round int64) int64 {
	if value+pieces == 0 {
		return 0
	}
	return max(tariff.Least, slowDueByRate(value, tariff.Rate, round)+pieces*tariff.Piece)
}

func TestBestTariff(t *testing.T) {
	const most = impl.MaxCents
	usual := tariffOf(1000, 2, 15)
	for _, c := range []struct {
		list          []impl.Tariff
		value, pieces int64
		best, due     int64
	}{
		{[]impl.Tariff{usual, tariffOf(500, 0, 0)}, 100, 5, 1, 5},
		{[]impl.Tariff{tariffOf(500, 0, 0), usual}, 100, 5, 0, 5},
		{[]impl.Tariff{usual}, 100, 5, 0, 20},
		{[]impl.Tariff{usual, usual, usual}, 100, 5, 0, 20},
		{[]impl.Tariff{tariffOf(3000, 0, 0), tariffOf(2000, 0, 0), tariffOf(0, 4, 0), tariffOf(0, 0, 20)}, 100, 5, 1, 20},
		{[]impl.Tariff{usual, tariffOf(0, 0, 0)}, 0, 0, 0, 0},
		{[]impl.Tariff{tariffOf(0, 0, 9), tariffOf(0, 9, 0), tariffOf(9, 0, 0)}, 0, 1, 2, 0},
		{append(slices.Repeat([]impl.Tariff{usual}, impl.MaxPlaces-1), tariffOf(0, 0, 14)), 0, 1, impl.MaxPlaces - 1, 14},
		{[]impl.Tariff{tariffOf(10000, 0, 0), tariffOf(9999, 0, 0)}, most, 1, 1, most / 10000 * 9999},
	} {
		best, due, ok := impl.BestTariff(c.list, c.value, c.pieces, 0)
		isList(t, fmt.Sprintf("BestTariff(%v, %d, %d, 0)", c.list, c.value, c.pieces), []int64{best, due}, ok, c.best, c.due)
	}
	// A due that is no amount is not told, even if another one is less.
	over := tariffOf(10000, 1, 0)
	isNone(t, "BestTariff with a due that is too great", results(impl.BestTariff([]impl.Tariff{usual, over}, most, 1, 0)))
	isNone(t, "BestTariff with a due that is too great", results(impl.BestTariff([]impl.Tariff{over, usual}, most, 1, 0)))
}

func TestCustomsByFractions(t *testing.T) {
	g := lcg(91)
	for range 5000 {
		value, pieces := g.below(g.one(0, 10, 3000, 900000000000)), g.below(g.one(0, 3, 100000))
		var list []impl.Tariff
		for range 1 + g.below(impl.MaxPlaces-1) {
			list = append(list, tariffOf(g.below(g.one(0, 10000)), g.below(g.one(0, 2, 1000000)), g.below(g.one(0, 20, 1000000))))
		}
		round := g.below(3)
		var dues []int64
		for _, tariff := range list {
			want := slowCustoms(tariff, value, pieces, round)
			got, ok := impl.CustomsDue(tariff, value, pieces, round)
			isTold(t, fmt.Sprintf("CustomsDue(%v, %d, %d, %d)", tariff, value, pieces, round), got, ok, want)
			dues = append(dues, want)
		}
		best, due, ok := impl.BestTariff(list, value, pieces, round)
		least := slices.Min(dues)
		what := fmt.Sprintf("BestTariff(%v, %d, %d, %d)", list, value, pieces, round)
		isList(t, what, []int64{best, due}, ok, int64(slices.Index(dues, least)), least)
	}
}

func TestIsOrigin(t *testing.T) {
	const most = impl.MaxCents
	for _, c := range []struct {
		own, all, rate int64
		want           bool
	}{
		{40, 100, 4000, true},
		{39, 100, 4000, false},
		{40, 100, 4001, false},
		{40, 101, 4000, false},
		{100, 100, 10000, true},
		{99, 100, 10000, false},
		{0, 100, 0, true},
		{0, 100, 1, false},
		{0, 0, 0, true},
		{0, 0, 10000, true},
		{most, most, 10000, true},
		{most - 1, most, 10000, false},
		{most - 1, most, 9999, true},
		{most / 10000, most, 1, true},
		{most/10000 - 1, most, 1, false},
	} {
		got, ok := impl.IsOrigin(c.own, c.all, c.rate)
		if !ok || got != c.want {
			t.Errorf("IsOrigin(%d, %d, %d): got %v %v, want %v", c.own, c.all, c.rate, got, ok, c.want)
		}
	}
}

func TestCreditLimit(t *testing.T) {
	const most = impl.MaxCents
	for _, c := range []struct{ due, away, all, paid, want int64 }{
		{100, 30, 120, 40, 25},
		{100, 30, 120, 25, 25},
		{100, 30, 120, 24, 24},
		{100, 30, 120, 0, 0},
		{100, 0, 120, 40, 0},
		{100, 120, 120, most, 100},
		{0, 120, 120, 40, 0},
		{100, 1, 3, most, 33},
		{100, 2, 3, most, 66},
		{1, 2, 3, 5, 0},
		{5, 0, 1, 5, 0},
		{5, 1, 1, 5, 5},
		{1000000, 1000000000, 1000000000, most, 1000000},
		{1000000, 999999999, 1000000000, most, 999999},
		{1000000, 1, 1000000000, most, 0},
	} {
		got, ok := impl.CreditLimit(c.due, c.away, c.all, c.paid)
		isTold(t, fmt.Sprintf("CreditLimit(%d, %d, %d, %d)", c.due, c.away, c.all, c.paid), got, ok, c.want)
	}
	isNone(t, "CreditLimit without anything", results(impl.CreditLimit(100, 0, 0, 40)))
	g := lcg(92)
	for range 5000 {
		due, all, paid := g.below(1000000), 1+g.below(g.one(9, 1000, 999999999)), g.below(g.one(10, 1000000, most))
		away := g.below(all)
		got, ok := impl.CreditLimit(due, away, all, paid)
		what := fmt.Sprintf("CreditLimit(%d, %d, %d, %d)", due, away, all, paid)
		isTold(t, what, got, ok, min(paid, slowRound(quotient(due, away, all), 0)))
	}
}

func TestExemptDue(t *testing.T) {
	s := scaleWith(0, 1000, 1000, 2000)
	for _, c := range []struct {
		home, away int64
		want       [4]int64
	}{
		{500, 1000, [4]int64{66, 67, 67, 67}}, // a third of 200
		{1000, 500, [4]int64{133, 133, 133, 134}},
		{1500, 0, [4]int64{200, 200, 200, 200}},
		{0, 1500, [4]int64{0, 0, 0, 0}},
		{0, 0, [4]int64{0, 0, 0, 0}},
		{0, 1, [4]int64{0, 0, 0, 0}},
		{1, 0, [4]int64{0, 0, 0, 1}},
		{5, 0, [4]int64{0, 1, 0, 1}},
		{5, 10, [4]int64{0, 1, 0, 1}}, // the due is 1.5, and is not rounded before
		{15, 5, [4]int64{1, 2, 2, 2}},
		{750, 751, [4]int64{100, 100, 100, 101}}, // 200.2 times 750, divided by 1501
		{100000, 0, [4]int64{19900, 19900, 19900, 19900}},
		{0, 100000, [4]int64{0, 0, 0, 0}},
		{50000, 50000, [4]int64{9950, 9950, 9950, 9950}},
		{99999, 1, [4]int64{19899, 19900, 19900, 19900}},
	} {
		for round, want := range c.want {
			got, ok := impl.ExemptDue(s, c.home, c.away, int64(round))
			isTold(t, fmt.Sprintf("ExemptDue(%v, %d, %d, %d)", s, c.home, c.away, round), got, ok, want)
		}
	}
	isNone(t, "ExemptDue of more than 100000", results(impl.ExemptDue(s, 50001, 50000, 0)))
	isNone(t, "ExemptDue of more than 100000", results(impl.ExemptDue(s, impl.MaxCents, impl.MaxCents, 0)))
	isNone(t, "ExemptDue of nothing in no way", results(impl.ExemptDue(s, 0, 0, 4)))
	isNone(t, "ExemptDue of nothing by no scale", results(impl.ExemptDue(impl.Scale{}, 0, 0, 0)))
	g := lcg(93)
	for range 300 {
		for _, s := range goodScales() {
			all := 1 + g.below(g.one(10, 50, 2000, 99999))
			home, round := g.below(all), g.below(3)
			exact := new(big.Rat).Mul(slowDue(s, all), big.NewRat(home, all))
			got, ok := impl.ExemptDue(s, home, all-home, round)
			isTold(t, fmt.Sprintf("ExemptDue(%v, %d, %d, %d)", s, home, all-home, round), got, ok, slowRound(exact, round))
		}
	}
}
