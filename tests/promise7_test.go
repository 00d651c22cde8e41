package tests

import (
	"fmt"
	"slices"
	"testing"

	"loop.example/g01393/impl"
)

// Promise 7: splits of points keep their sum, and the greatest safe draw is
// safe, but not one more.

// Both have as many points together as before in each year, and nearly as many
// as each other in the years that are split.
func TestPromise7SplitsKeepTheirSum(t *testing.T) {
	g := lcg(151)
	odd := 0
	for range 5000 {
		size := g.one(1, 2, 9, 30000, 1000000)
		one := g.list(g.one(2, 5, impl.MaxService), size)
		var two []int64
		for range one {
			two = append(two, g.below(size))
		}
		count := int64(len(one))
		to := g.below(count)
		from := g.below(to)
		first, second, ok := impl.SplitPoints(one, two, from, to)
		what := fmt.Sprintf("SplitPoints(%v, %v, %d, %d): got %v %v", one, two, from, to, first, second)
		if !ok || len(first) != len(one) || len(second) != len(one) {
			t.Fatal(what)
		}
		isInt(t, "the sum of "+what, sumOf(first)+sumOf(second), sumOf(one)+sumOf(two))
		for year := range count {
			before, after := one[year]-two[year], first[year]-second[year]
			isInt(t, fmt.Sprintf("the sum of the year %d of %s", year, what), first[year]+second[year], one[year]+two[year])
			if year < from || year >= to {
				isInt(t, fmt.Sprintf("the year %d of %s", year, what), first[year], one[year])
				continue
			}
			// Whoever had more keeps the one that is over.
			isTrue(t, fmt.Sprintf("the year %d of %s", year, what), after == before%2)
			if after != 0 {
				odd++
			}
		}
	}
	isTrue(t, "there are odd differences", odd > 1000)
}

// Who split the other way around have the same.
func TestPromise7SplitsDoNotMindTheOrder(t *testing.T) {
	g := lcg(152)
	for range 2000 {
		one := g.list(impl.MaxService, 1000000)
		two := slices.Clone(one)
		for i := range two {
			two[i] = g.below(1000000)
		}
		to := int64(len(one))
		first, second, ok := impl.SplitPoints(one, two, to/3, to)
		turned, other, alsoOK := impl.SplitPoints(two, one, to/3, to)
		what := fmt.Sprintf("SplitPoints(%v, %v, %d, %d)", one, two, to/3, to)
		isList(t, "the former of "+what, turned, ok && alsoOK, second...)
		isList(t, "the latter of "+what, other, ok && alsoOK, first...)
		again, still, ok := impl.SplitPoints(first, second, to/3, to)
		isList(t, "the former again of "+what, again, ok, first...)
		isList(t, "the latter again of "+what, still, ok, second...)
	}
}

// drawStarts has starts of all sizes.
func drawStarts(g *lcg) []int64 {
	return []int64{0, 1, 2, 3, 59, 60, 61, 99, 10000, 10001, 999999999, 1000000000, g.below(1000), g.below(1000000), g.below(1000000000)}
}

// The greatest safe draw can be taken whole in all years, but not one more,
// where what is left counts as MaxCents if it is more.
func TestPromise7SafeDraws(t *testing.T) {
	g := lcg(153)
	capped := 0
	for _, rates := range fundRates() {
		for _, start := range drawStarts(&g) {
			draw, ok := impl.SafeDraw(start, rates)
			what := fmt.Sprintf("SafeDraw(%d, %v): got %d", start, rates, draw)
			isTrue(t, what, ok && draw >= 0 && draw <= start)
			left, years := slowDraw(start, rates, draw, impl.MaxCents)
			isInt(t, "years of "+what, years, int64(len(rates)))
			_, years = slowDraw(start, rates, draw+1, impl.MaxCents)
			isTrue(t, fmt.Sprintf("%s, but one more is safe, too", what), int(years) < len(rates))
			if slices.Contains(left, impl.MaxCents) {
				capped++
			}
		}
	}
	isTrue(t, fmt.Sprintf("some funds are counted as MaxCents: %d", capped), capped > 20)
}

// DrawDown tells the same, wherever what is left stays an amount.
func TestPromise7DrawDownIsSafe(t *testing.T) {
	g := lcg(154)
	told := 0
	for _, rates := range fundRates() {
		for _, start := range drawStarts(&g) {
			draw, _ := impl.SafeDraw(start, rates)
			what := fmt.Sprintf("SafeDraw(%d, %v): got %d", start, rates, draw)
			for more := range int64(2) {
				_, years, ok := impl.DrawDown(start, rates, draw+more)
				if !ok {
					continue
				}
				told++
				isTrue(t, fmt.Sprintf("%s, and %d more is taken for %d years", what, more, years), (int(years) == len(rates)) == (more == 0))
			}
		}
	}
	isTrue(t, "DrawDown tells of many", told > 2000)
}

// A greater start, and rates that are greater, never make a safe draw less.
func TestPromise7MoreIsSafeWithMore(t *testing.T) {
	g := lcg(155)
	for _, rates := range fundRates() {
		better := slices.Clone(rates)
		i := g.below(int64(len(rates) - 1))
		better[i] = min(10000, better[i]+1+g.below(500))
		before := int64(0)
		for _, start := range slices.Sorted(slices.Values(drawStarts(&g))) {
			draw, _ := impl.SafeDraw(start, rates)
			more, ok := impl.SafeDraw(start, better)
			isTrue(t, fmt.Sprintf("SafeDraw(%d, %v): got %d, but %d before, and %d for %v", start, rates, draw, before, more, better), ok && draw >= before && more >= draw)
			before = draw
		}
	}
}

// Workers make the draws that are safe, any number of them the same.
func TestPromise7WorkersMakeSafeDraws(t *testing.T) {
	g := lcg(156)
	for _, rates := range fundRates() {
		starts := drawStarts(&g)
		for workers := int64(1); workers <= impl.MaxWorkers; workers++ {
			draws, ok := impl.DrawsShared(starts, rates, workers)
			what := fmt.Sprintf("DrawsShared(%v, %v, %d): got %v", starts, rates, workers, draws)
			if !ok || len(draws) != len(starts) {
				t.Fatal(what)
			}
			for i, start := range starts {
				_, years := slowDraw(start, rates, draws[i], impl.MaxCents)
				_, less := slowDraw(start, rates, draws[i]+1, impl.MaxCents)
				isTrue(t, what, int(years) == len(rates) && int(less) < len(rates))
			}
		}
	}
}
