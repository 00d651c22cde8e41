package tests

import (
	"fmt"
	"math"
	"slices"
	"strings"
	"testing"

	"loop.example/g01393/impl"
)

func (a *pensionArguments) lists() []*[]int64 {
	return []*[]int64{&a.pays, &a.means, &a.points, &a.others, &a.spans, &a.growth, &a.saved, &a.rates, &a.flows, &a.starts}
}

func (a *pensionArguments) lives() []*[]float32 {
	return []*[]float32{&a.q, &a.second}
}

func (a *pensionArguments) numbers() []*int64 {
	return []*int64{
		&a.most, &a.value, &a.factor, &a.months, &a.early, &a.late, &a.least, &a.wait, &a.count, &a.pension, &a.rate, &a.own, &a.free, &a.taper,
		&a.from, &a.to, &a.start, &a.fee, &a.rounds, &a.later, &a.fund, &a.draw, &a.drawStart, &a.workers,
	}
}

// toldRaw tells all memory of the lists, to the end of each capacity, where
// zeros with a sign and all not-a-numbers are told apart.
func (a *pensionArguments) toldRaw() string {
	var b strings.Builder
	for _, list := range a.lists() {
		fmt.Fprint(&b, len(*list), (*list)[:cap(*list)])
	}
	for _, q := range a.lives() {
		fmt.Fprint(&b, len(*q))
		for _, x := range (*q)[:cap(*q)] {
			fmt.Fprintf(&b, " %08x", math.Float32bits(x))
		}
	}
	return b.String()
}

// makeRoomy gives unused capacity that is not 0 to all lists.
func (a *pensionArguments) makeRoomy() {
	for _, list := range a.lists() {
		*list = roomy(*list)
	}
	for _, q := range a.lives() {
		*q = append(slices.Clone(*q), 0.25, 1)[:len(*q)]
	}
}

// pensionShelves has many arguments for chapter 6: good ones of which some are
// exchanged for any others.
func pensionShelves() []*pensionArguments {
	numbers := []int64{0, 1, 2, 3, 12, 100, 9999, 10000, 10001, 30000, 1000000, 1000000000, impl.MaxCents, impl.MaxCents + 1, -1, -12, -600, -9999, math.MinInt64, math.MaxInt64}
	spans, rates, flows := append(spanLists()[:200], badSpans()...), append(fundRates(), badFundRates()...), append(flowLists(), badFlows()...)
	tables := append(goodLives(), badLives()...)
	reals := slices.Concat(goodInterest(), []float32{-0.5, -0.25}, badChances())
	g := lcg(141)
	var all []*pensionArguments
	for i := range 2000 {
		a := goodPensions()
		a.both = i%2 == 0
		for _, number := range a.numbers() {
			if g.below(6) == 0 {
				*number = g.one(numbers...)
			}
		}
		if i%3 > 0 {
			a.spans, a.rates, a.flows = spans[i%len(spans)], rates[i%len(rates)], flows[i%len(flows)]
			a.q, a.second = tables[i%len(tables)], tables[i/2%len(tables)]
			a.saved = g.list(impl.MaxService, 1000)
		}
		if i%4 > 1 {
			a.pays, a.means, a.growth = g.list(3, impl.MaxCents), g.list(3, 5), g.list(3, 10000)
			a.points, a.others, a.starts = g.list(2, 1000001), g.list(2, 9), g.list(17, 1000000100)
			a.flowRate, a.interest = reals[i%len(reals)], reals[i/3%len(reals)]
		}
		a.makeRoomy()
		all = append(all, a)
	}
	return all
}

// Promise 1: every function of chapter 6 returns for all arguments, modifies
// none of them, and returns equal results for equal arguments.
func TestPromise1Chapter6(t *testing.T) {
	shelves := pensionShelves()
	returnSame(t, callsOfChapter6(), shelves)
	someSucceed(t, callsOfChapter6(), shelves)
}

func TestPromise1NewMemoryOfChapter6(t *testing.T) {
	returnNew(t, callsOfChapter6(), pensionShelves())
}
