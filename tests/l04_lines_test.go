package tests

import (
	"fmt"
	"math/big"
	"slices"
	"testing"

	"loop.example/g01393/impl"
)

func TestChainDues(t *testing.T) {
	const most = impl.MaxCents
	for _, c := range []struct {
		sales       []int64
		rate, round int64
		want        []int64
	}{
		{[]int64{100, 250, 400}, 2000, 0, []int64{20, 30, 30}},
		{[]int64{0}, 2000, 0, []int64{0}},
		{[]int64{100}, 2000, 3, []int64{20}},
		{[]int64{400, 250, 0, 100}, 2000, 0, []int64{80, -30, -50, 20}}, // sales that fall
		{[]int64{5, 5, 5}, 10000, 0, []int64{5, 0, 0}},
		{[]int64{5, 9, 2}, 0, 3, []int64{0, 0, 0}},
		{[]int64{1, 2, 3, 4, 5}, 5000, 0, []int64{0, 1, 0, 1, 0}},
		{[]int64{1, 2, 3, 4, 5}, 5000, 1, []int64{1, 0, 1, 0, 1}},
		{[]int64{1, 2, 3, 4, 5}, 5000, 2, []int64{0, 1, 1, 0, 0}},
		{[]int64{1, 2, 3, 4, 5}, 5000, 3, []int64{1, 0, 1, 0, 1}},
		{[]int64{1, 2, 3, 4, 5}, 1, 3, []int64{1, 0, 0, 0, 0}},
		{[]int64{most, 0, most}, 10000, 0, []int64{most, -most, most}},
		{[]int64{1, most}, 10000, 0, []int64{1, most - 1}},
	} {
		got, ok := impl.ChainDues(c.sales, c.rate, c.round)
		isList(t, fmt.Sprintf("ChainDues(%v, %d, %d)", c.sales, c.rate, c.round), got, ok, c.want...)
	}
}

func TestChainDuesByFractions(t *testing.T) {
	g := lcg(81)
	for range 3000 {
		sales := g.list(impl.MaxStages, g.one(10, 30000, impl.MaxCents))
		rate := g.one(0, 1, 700, 1900, 5000, 9999, 10000, g.below(10000))
		for round := range int64(4) {
			want := []int64{slowDueByRate(sales[0], rate, round)}
			for i := 1; i < len(sales); i++ {
				want = append(want, slowDueByRate(sales[i], rate, round)-slowDueByRate(sales[i-1], rate, round))
			}
			got, ok := impl.ChainDues(sales, rate, round)
			isList(t, fmt.Sprintf("ChainDues(%v, %d, %d)", sales, rate, round), got, ok, want...)
		}
	}
}

func TestCascadePrices(t *testing.T) {
	const most = impl.MaxCents
	for _, c := range []struct {
		values      []int64
		rate, round int64
		want        []int64
	}{
		{[]int64{100, 100}, 1000, 0, []int64{110, 231}},
		{[]int64{0}, 1000, 3, []int64{0}},
		{[]int64{0, 0, 7}, 10000, 3, []int64{0, 0, 14}},
		{[]int64{5, 5, 5}, 0, 3, []int64{5, 10, 15}},
		{[]int64{1, 1, 1}, 5000, 0, []int64{1, 3, 6}},
		{[]int64{1, 1, 1}, 5000, 1, []int64{2, 5, 9}},
		{[]int64{1, 1, 1, 1}, 5000, 2, []int64{1, 3, 6, 11}}, // the dues 0.5, 1, 2 and 3.5
		{[]int64{1, 0, 0}, 1, 3, []int64{2, 3, 4}},
		{[]int64{1}, 10000, 0, []int64{2}},
		{slices.Repeat([]int64{1}, impl.MaxStages), 10000, 0,
			[]int64{2, 6, 14, 30, 62, 126, 254, 510, 1022, 2046, 4094, 8190, 16382, 32766, 65534, 131070}},
		{[]int64{most, 0}, 0, 3, []int64{most, most}},
		{[]int64{0, most}, 0, 0, []int64{0, most}},
		{[]int64{most / 2}, 10000, 0, []int64{most}},
		{[]int64{most / 4, 0}, 10000, 0, []int64{most / 2, most}},
		{[]int64{666666666667}, 5000, 0, []int64{most}},
		{[]int64{666666666667}, 5000, 1, nil}, // a half
		{[]int64{666666666667}, 5000, 2, nil},
		{[]int64{666666666667}, 5000, 3, nil},
		{[]int64{999900009999}, 1, 0, []int64{most - 1}},
		{[]int64{999900009999}, 1, 3, []int64{most}},
		{[]int64{most - 1}, 1, 0, nil},
		{[]int64{most, 1}, 0, 0, nil},
		{[]int64{1, most}, 0, 0, nil},
		{[]int64{most/2 + 1}, 10000, 0, nil},
		{[]int64{most / 2, 1}, 10000, 0, nil},
		{[]int64{most, 0, 0}, 10000, 0, nil},
		{slices.Repeat([]int64{most}, impl.MaxStages), 10000, 0, nil},
	} {
		got, ok := impl.CascadePrices(c.values, c.rate, c.round)
		what := fmt.Sprintf("CascadePrices(%v, %d, %d)", c.values, c.rate, c.round)
		if c.want == nil {
			isNone(t, what, results(got, ok))
			continue
		}
		isList(t, what, got, ok, c.want...)
	}
}

func TestCascadePricesByFractions(t *testing.T) {
	g := lcg(82)
	failures := 0
	for range 3000 {
		values := g.list(impl.MaxStages, g.one(3, 30000, impl.MaxCents/40, impl.MaxCents))
		rate := g.one(0, 1, 700, 1900, 5000, 9999, 10000, g.below(10000))
		for round := range int64(4) {
			var want []int64
			price := int64(0)
			for _, value := range values {
				price += value
				price += slowDueByRate(price, rate, round)
				if price > impl.MaxCents {
					break
				}
				want = append(want, price)
			}
			got, ok := impl.CascadePrices(values, rate, round)
			what := fmt.Sprintf("CascadePrices(%v, %d, %d)", values, rate, round)
			if price > impl.MaxCents {
				failures++
				isNone(t, what, results(got, ok))
				continue
			}
			isList(t, what, got, ok, want...)
		}
	}
	isTrue(t, "some of the prices are no amounts, and some are", failures > 100 && failures < 11000)
}

func TestNetOfPrice(t *testing.T) {
	const most = impl.MaxCents
	for _, c := range []struct {
		price, rate int64
		want        [4]int64
	}{
		{120, 2000, [4]int64{100, 100, 100, 100}},
		{119, 1900, [4]int64{100, 100, 100, 100}},
		{0, 1900, [4]int64{0, 0, 0, 0}},
		{7, 0, [4]int64{7, 7, 7, 7}},
		{1, 10000, [4]int64{0, 1, 0, 1}},
		{3, 10000, [4]int64{1, 2, 2, 2}},
		{5, 10000, [4]int64{2, 3, 2, 3}},
		{1, 1, [4]int64{0, 1, 1, 1}},
		{100, 1900, [4]int64{84, 84, 84, 85}}, // 84.03
		{100, 700, [4]int64{93, 93, 93, 94}},  // 93.46
		{10, 1600, [4]int64{8, 9, 9, 9}},      // 8.62
		{most, 0, [4]int64{most, most, most, most}},
		{most, 10000, [4]int64{most / 2, most / 2, most / 2, most / 2}},
		{most, 1, [4]int64{999900009999, 999900009999, 999900009999, 999900010000}},
	} {
		for round, want := range c.want {
			got, ok := impl.NetOfPrice(c.price, c.rate, int64(round))
			isTold(t, fmt.Sprintf("NetOfPrice(%d, %d, %d)", c.price, c.rate, round), got, ok, want)
		}
	}
	g := lcg(83)
	for range 20000 {
		price, rate := g.below(g.one(10, 30000, most)), g.one(0, 1, 2500, 5000, 10000, g.below(10000))
		for round := range int64(4) {
			want := slowRound(quotient(price, 10000, 10000+rate), round)
			got, ok := impl.NetOfPrice(price, rate, round)
			isTold(t, fmt.Sprintf("NetOfPrice(%d, %d, %d)", price, rate, round), got, ok, want)
		}
	}
}

func TestLines(t *testing.T) {
	const most = impl.MaxCents
	for _, c := range []struct {
		b                     bill
		round                 int64
		lines, totals, spread []int64
	}{
		{bill{[]int64{3, 3, 3}, []int64{0, 0, 0}, []int64{5000}}, 0, []int64{1, 1, 1}, []int64{4}, []int64{2, 1, 1}},
		{bill{[]int64{3, 3, 3}, []int64{0, 0, 0}, []int64{5000}}, 1, []int64{2, 2, 2}, []int64{5}, []int64{2, 2, 1}},
		{bill{[]int64{3, 3, 3}, []int64{0, 0, 0}, []int64{5000}}, 2, []int64{2, 2, 2}, []int64{4}, []int64{2, 1, 1}},
		{bill{[]int64{3, 3, 3}, []int64{0, 0, 0}, []int64{5000}}, 3, []int64{2, 2, 2}, []int64{5}, []int64{2, 2, 1}},
		{bill{[]int64{1, 1, 1, 1}, []int64{0, 0, 0, 0}, []int64{1}}, 3, []int64{1, 1, 1, 1}, []int64{1}, []int64{1, 0, 0, 0}},
		{bill{[]int64{1, 1, 1, 1}, []int64{0, 0, 0, 0}, []int64{9999}}, 3, []int64{1, 1, 1, 1}, []int64{4}, []int64{1, 1, 1, 1}},
		{bill{[]int64{1, 1, 1, 1}, []int64{0, 0, 0, 0}, []int64{9999}}, 0, []int64{0, 0, 0, 0}, []int64{3}, []int64{1, 1, 1, 0}},
		// The greatest rest is the last one's, then two are equal.
		{bill{[]int64{11, 12, 12, 13}, []int64{0, 0, 0, 0}, []int64{1000}}, 3, []int64{2, 2, 2, 2}, []int64{5}, []int64{1, 1, 1, 2}},
		{bill{[]int64{15, 17, 17, 19}, []int64{0, 0, 0, 0}, []int64{1000}}, 0, []int64{1, 1, 1, 1}, []int64{6}, []int64{1, 2, 1, 2}},
		// Rates that take turns, and two without lines.
		{bill{[]int64{15, 5, 19, 5}, []int64{2, 1, 2, 1}, []int64{700, 1000, 1000, 10000}}, 0, []int64{1, 0, 1, 0}, []int64{0, 1, 3, 0}, []int64{1, 1, 2, 0}},
		{bill{[]int64{0, 0}, []int64{1, 0}, []int64{10000, 10000}}, 3, []int64{0, 0}, []int64{0, 0}, []int64{0, 0}},
		{bill{[]int64{9, 9}, []int64{0, 0}, []int64{0, 10000}}, 3, []int64{0, 0}, []int64{0, 0}, []int64{0, 0}},
		{bill{[]int64{9, 9}, []int64{1, 1}, []int64{0, 10000}}, 3, []int64{9, 9}, []int64{0, 18}, []int64{9, 9}},
		{bill{[]int64{most}, []int64{0}, []int64{10000}}, 0, []int64{most}, []int64{most}, []int64{most}},
		{bill{[]int64{1, most - 1}, []int64{0, 0}, []int64{9999}}, 0, []int64{0, 999899999999}, []int64{999900000000}, []int64{1, 999899999999}},
	} {
		lines, one := impl.LineDues(c.b.lines, c.b.kinds, c.b.rates, c.round)
		totals, two := impl.RateDues(c.b.lines, c.b.kinds, c.b.rates, c.round)
		spread, three := impl.SpreadDues(c.b.lines, c.b.kinds, c.b.rates, c.round)
		what := fmt.Sprintf("(%v, %d)", c.b, c.round)
		isList(t, "LineDues"+what, lines, one, c.lines...)
		isList(t, "RateDues"+what, totals, two, c.totals...)
		isList(t, "SpreadDues"+what, spread, three, c.spread...)
	}
}

func TestLinesByFractions(t *testing.T) {
	apart := 0
	for _, b := range goodBills() {
		for round := range int64(4) {
			what := fmt.Sprintf("(%v, %d)", b, round)
			var dues []int64
			for i, cents := range b.lines {
				dues = append(dues, slowDueByRate(cents, b.rates[b.kinds[i]], round))
			}
			lines, one := impl.LineDues(b.lines, b.kinds, b.rates, round)
			totals, two := impl.RateDues(b.lines, b.kinds, b.rates, round)
			spread, three := impl.SpreadDues(b.lines, b.kinds, b.rates, round)
			isList(t, "LineDues"+what, lines, one, dues...)
			isList(t, "RateDues"+what, totals, two, slowRateDues(b, round)...)
			isList(t, "SpreadDues"+what, spread, three, slowSpread(b, round)...)
			if sumOf(lines) != sumOf(totals) {
				apart++
			}
		}
	}
	isTrue(t, "sums of lines are rounded apart", apart > 100)
}

func TestRefundShare(t *testing.T) {
	const most = impl.MaxCents
	many := slices.Repeat([]int64{most}, impl.MaxLines)
	for _, c := range []struct {
		dues               []int64
		above, below, want int64
	}{
		{[]int64{10, 5}, 1, 2, 7},
		{[]int64{10, 5}, 2, 2, 15},
		{[]int64{10, 5}, 0, 2, 0},
		{[]int64{10, 5}, 0, 1, 0},
		{[]int64{10, 5}, 1, 1, 15},
		{[]int64{10, 5}, 9999, 10000, 14},
		{[]int64{10, 5}, 10000, 10000, 15},
		{[]int64{0}, 1, 1, 0},
		{[]int64{1, 1, 1}, 1, 3, 1},
		{[]int64{1, 1}, 1, 3, 0},
		{[]int64{most}, 1, 1, most},
		{[]int64{most, most}, 1, 2, most},
		{[]int64{most, most, 1}, 1, 2, most},
		{[]int64{most, most, 2}, 1, 2, -1},
		{[]int64{most, 1}, 1, 1, -1},
		{[]int64{most, 1}, 9999, 10000, 999900000000},
		{many, 1, 32, most},
		{many, 312, 10000, 998400000000},
		{many, 313, 10000, -1},
		{many, 10000, 10000, -1},
	} {
		got, ok := impl.RefundShare(c.dues, c.above, c.below)
		what := fmt.Sprintf("RefundShare(%v, %d, %d)", c.dues, c.above, c.below)
		if c.want < 0 {
			isNone(t, what, results(got, ok))
			continue
		}
		isTold(t, what, got, ok, c.want)
	}
	isNone(t, "RefundShare of none of none", results(impl.RefundShare([]int64{10, 5}, 0, 0)))
}

func TestRefundShareByFractions(t *testing.T) {
	g := lcg(84)
	for range 3000 {
		dues := g.list(impl.MaxLines, g.one(10, 30000, impl.MaxCents))
		below := 1 + g.below(g.one(5, 9999))
		above := g.below(below)
		share := quotient(sumOf(dues), above, below)
		got, ok := impl.RefundShare(dues, above, below)
		what := fmt.Sprintf("RefundShare(%v, %d, %d)", dues, above, below)
		if share.Cmp(big.NewRat(impl.MaxCents+1, 1)) >= 0 {
			isNone(t, what, results(got, ok))
			continue
		}
		isTold(t, what, got, ok, slowRound(share, 0))
	}
}
