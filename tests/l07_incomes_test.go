package tests

import (
	"fmt"
	"math"
	"math/big"
	"slices"
	"testing"

	"loop.example/g01393/impl"
)

func TestAreIncomes(t *testing.T) {
	for _, list := range goodIncomes() {
		isTrue(t, fmt.Sprintf("AreIncomes(%v)", list), impl.AreIncomes(list))
	}
	for _, list := range badIncomes() {
		isFalse(t, fmt.Sprintf("AreIncomes(%v)", list), impl.AreIncomes(list))
	}
}

func TestEvennessCurve(t *testing.T) {
	for _, c := range []struct{ list, want []int64 }{
		{[]int64{3, 1}, []int64{1, 4}},
		{[]int64{5}, []int64{5}},
		{[]int64{0}, []int64{0}},
		{[]int64{0, 0, 0}, []int64{0, 0, 0}},
		{[]int64{4, 0, 1, 0}, []int64{0, 0, 1, 5}},
		{[]int64{2, 2, 2}, []int64{2, 4, 6}},
		{[]int64{1000000000, 1000000000}, []int64{1000000000, 2000000000}},
	} {
		got, ok := impl.EvennessCurve(c.list)
		isList(t, fmt.Sprintf("EvennessCurve(%v)", c.list), got, ok, c.want...)
	}
	for _, list := range goodIncomes() {
		var want []int64
		for count := range list {
			want = append(want, sumOf(slices.Sorted(slices.Values(list))[:count+1]))
		}
		got, ok := impl.EvennessCurve(list)
		isList(t, fmt.Sprintf("EvennessCurve(%v)", list), got, ok, want...)
	}
	for _, list := range badIncomes() {
		isNone(t, fmt.Sprintf("EvennessCurve(%v)", list), results(impl.EvennessCurve(list)))
	}
}

// isFraction checks a fraction that must have no common factor.
func isFraction(t *testing.T, what string, above, below int64, ok bool, want *big.Rat) {
	t.Helper()
	if !ok || big.NewInt(above).Cmp(want.Num()) != 0 || big.NewInt(below).Cmp(want.Denom()) != 0 {
		t.Errorf("%s: got %d/%d %v, want %v", what, above, below, ok, want)
	}
}

// slowUneven counts each pair of different places twice, and halves the sum.
func slowUneven(list []int64) *big.Rat {
	apart := int64(0)
	for _, a := range list {
		for _, b := range list {
			apart += int64(math.Abs(float64(a - b)))
		}
	}
	return big.NewRat(apart/2, int64(len(list))*sumOf(list))
}

func TestUnevenOf(t *testing.T) {
	const most = 1000000000
	for _, c := range []struct {
		list         []int64
		above, below int64
	}{
		{[]int64{1, 3}, 1, 4},
		{[]int64{3, 1}, 1, 4},
		{[]int64{5}, 0, 1},
		{[]int64{5, 5}, 0, 1},
		{[]int64{most}, 0, 1},
		{[]int64{0, 1}, 1, 2},
		{[]int64{1, 2}, 1, 6},
		{[]int64{2, 3, 4}, 4, 27},
		{[]int64{4, 2, 3}, 4, 27},
		{[]int64{0, 0, 0, 7}, 3, 4},
		{[]int64{2, 4, 6}, 2, 9},
		{append(make([]int64, impl.MaxPeople-1), 1), 63, 64},
		{append(make([]int64, impl.MaxPeople-1), most), 63, 64},
		{slices.Repeat([]int64{0, most}, impl.MaxPeople/2), 1, 2},
		{slices.Repeat([]int64{most}, impl.MaxPeople), 0, 1},
	} {
		above, below, ok := impl.UnevenOf(c.list)
		isFraction(t, fmt.Sprintf("UnevenOf(%v)", c.list), above, below, ok, big.NewRat(c.above, c.below))
	}
	for _, list := range goodIncomes() {
		above, below, ok := impl.UnevenOf(list)
		what := fmt.Sprintf("UnevenOf(%v)", list)
		if sumOf(list) == 0 {
			isNone(t, what, results(above, below, ok))
			continue
		}
		isFraction(t, what, above, below, ok, slowUneven(list))
	}
	for _, list := range append(badIncomes(), []int64{0}, []int64{0, 0}, make([]int64, impl.MaxPeople)) {
		isNone(t, fmt.Sprintf("UnevenOf(%v)", list), results(impl.UnevenOf(list)))
	}
}

func TestShareOfTop(t *testing.T) {
	for _, c := range []struct {
		list                []int64
		count, above, below int64
	}{
		{[]int64{1, 3}, 1, 3, 4},
		{[]int64{3, 1}, 1, 3, 4},
		{[]int64{3, 1}, 0, 0, 1},
		{[]int64{3, 1}, 2, 1, 1},
		{[]int64{5}, 0, 0, 1},
		{[]int64{5}, 1, 1, 1},
		{[]int64{0, 9, 0}, 1, 1, 1},
		{[]int64{2, 2, 2, 2}, 3, 3, 4},
		{[]int64{2, 6, 4}, 1, 1, 2},
		{[]int64{2, 6, 4}, 2, 5, 6},
		{slices.Repeat([]int64{1000000000}, impl.MaxPeople), 16, 1, 4},
	} {
		above, below, ok := impl.ShareOfTop(c.list, c.count)
		isFraction(t, fmt.Sprintf("ShareOfTop(%v, %d)", c.list, c.count), above, below, ok, big.NewRat(c.above, c.below))
	}
	for _, list := range goodIncomes() {
		sorted, count := slices.Sorted(slices.Values(list)), int64(len(list))
		for k := int64(-1); k <= count+1; k++ {
			above, below, ok := impl.ShareOfTop(list, k)
			what := fmt.Sprintf("ShareOfTop(%v, %d)", list, k)
			if sumOf(list) == 0 || k < 0 || k > count {
				isNone(t, what, results(above, below, ok))
				continue
			}
			isFraction(t, what, above, below, ok, big.NewRat(sumOf(sorted[count-k:]), sumOf(list)))
		}
		isNone(t, "ShareOfTop of far too few", results(impl.ShareOfTop(list, math.MinInt64)))
		isNone(t, "ShareOfTop of far too many", results(impl.ShareOfTop(list, math.MaxInt64)))
	}
	for _, list := range badIncomes() {
		isNone(t, fmt.Sprintf("ShareOfTop(%v)", list), results(impl.ShareOfTop(list, 0)))
	}
}

func TestTenParts(t *testing.T) {
	for _, c := range []struct{ list, want []int64 }{
		{[]int64{5}, []int64{5, 5, 5, 5, 5, 5, 5, 5, 5}},
		{[]int64{3, 1}, []int64{1, 1, 1, 1, 3, 3, 3, 3, 3}},
		{[]int64{30, 10, 20}, []int64{10, 10, 10, 20, 20, 20, 30, 30, 30}},
		{[]int64{9, 8, 7, 6, 5, 4, 3, 2, 1, 0}, []int64{1, 2, 3, 4, 5, 6, 7, 8, 9}},
		{[]int64{0, 1, 2, 3, 4, 5, 6, 7, 8}, []int64{0, 1, 2, 3, 4, 5, 6, 7, 8}},
		{[]int64{0, 1, 2, 3, 4, 5, 6, 7, 8, 9, 10}, []int64{1, 2, 3, 4, 5, 6, 7, 8, 9}},
		{make([]int64, impl.MaxPeople), make([]int64, 9)},
	} {
		got, ok := impl.TenParts(c.list)
		isList(t, fmt.Sprintf("TenParts(%v)", c.list), got, ok, c.want...)
	}
	for _, list := range goodIncomes() {
		var want []int64
		for k := 1.0; k <= 9; k++ {
			want = append(want, slices.Sorted(slices.Values(list))[int(math.Floor(k*float64(len(list))/10))])
		}
		got, ok := impl.TenParts(list)
		isList(t, fmt.Sprintf("TenParts(%v)", list), got, ok, want...)
	}
	for _, list := range badIncomes() {
		isNone(t, fmt.Sprintf("TenParts(%v)", list), results(impl.TenParts(list)))
	}
}

func TestPoorOf(t *testing.T) {
	const most = 1000000000
	for _, c := range []struct {
		list            []int64
		line, poor, gap int64
	}{
		{[]int64{3, 1}, 2, 1, 1},
		{[]int64{3, 1}, 0, 0, 0},
		{[]int64{3, 1}, 1, 0, 0}, // at an income, which is not less
		{[]int64{3, 1}, 3, 1, 2},
		{[]int64{3, 1}, 4, 2, 4}, // above all
		{[]int64{3, 1}, most, 2, 2*most - 4},
		{[]int64{0, 0}, 0, 0, 0},
		{[]int64{0, 0}, 1, 2, 2},
		{[]int64{most}, most, 0, 0},
		{make([]int64, impl.MaxPeople), most, impl.MaxPeople, impl.MaxPeople * most},
	} {
		poor, gap, ok := impl.PoorOf(c.list, c.line)
		isList(t, fmt.Sprintf("PoorOf(%v, %d)", c.list, c.line), []int64{poor, gap}, ok, c.poor, c.gap)
	}
	g := lcg(191)
	for _, list := range goodIncomes() {
		for _, line := range []int64{0, 1, most, g.one(list...), g.below(slices.Max(list)), min(most, slices.Max(list)+1)} {
			less := slices.DeleteFunc(slices.Clone(list), func(n int64) bool { return n >= line })
			poor, gap, ok := impl.PoorOf(list, line)
			isList(t, fmt.Sprintf("PoorOf(%v, %d)", list, line), []int64{poor, gap}, ok, int64(len(less)), line*int64(len(less))-sumOf(less))
		}
		for _, line := range []int64{-1, most + 1, math.MinInt64, math.MaxInt64} {
			isNone(t, fmt.Sprintf("PoorOf the line %d", line), results(impl.PoorOf(list, line)))
		}
	}
	for _, list := range badIncomes() {
		isNone(t, fmt.Sprintf("PoorOf(%v)", list), results(impl.PoorOf(list, 5)))
	}
}

// slowEntropy rounds each operation to a 32-bit number.
func slowEntropy(list []int64) float32 {
	count, sum := float32(len(list)), float32(0)
	mean := div(float32(sumOf(list)), count)
	for _, income := range list {
		x := div(float32(income), mean)
		if x == 0 {
			sum = add(sum, 0)
			continue
		}
		sum = add(sum, mul(x, float32(slowLog(float64(x)))))
	}
	return div(sum, count)
}

func TestEntropyOf(t *testing.T) {
	for _, c := range []struct {
		list []int64
		want float64
	}{
		{[]int64{5}, 0},
		{[]int64{5, 5}, 0},
		{[]int64{1000000000}, 0},
		{slices.Repeat([]int64{7}, impl.MaxPeople), 0},
		{[]int64{0, 7}, math.Ln2},
		{[]int64{7, 0}, math.Ln2},
		{[]int64{0, 0, 0, 1}, 2 * math.Ln2},
		{append(make([]int64, impl.MaxPeople-1), 1000000000), 6 * math.Ln2},
		{[]int64{1, 3}, (0.5*math.Log(0.5) + 1.5*math.Log(1.5)) / 2},
	} {
		got, ok := impl.EntropyOf(c.list)
		isTrue(t, fmt.Sprintf("EntropyOf(%v): got %v, nearly %v", c.list, got, c.want), ok && math.Abs(float64(got)-c.want) < 1e-6)
	}
	got, ok := impl.EntropyOf([]int64{5, 5})
	isReal(t, "EntropyOf equal incomes", got, ok, 0)
	wide := 0
	for _, list := range goodIncomes() {
		got, ok := impl.EntropyOf(list)
		what := fmt.Sprintf("EntropyOf(%v)", list)
		if sumOf(list) == 0 {
			isNone(t, what, results(got, ok))
			continue
		}
		isReal(t, what, got, ok, slowEntropy(list))
		if turned, _ := impl.EntropyOf(slices.Sorted(slices.Values(list))); turned != got {
			wide++ // sums are made in order
		}
	}
	isTrue(t, fmt.Sprintf("some are not the same in another order: %d", wide), wide > 20)
	for _, list := range append(badIncomes(), []int64{0}, []int64{0, 0}, make([]int64, impl.MaxPeople)) {
		isNone(t, fmt.Sprintf("EntropyOf(%v)", list), results(impl.EntropyOf(list)))
	}
}

// The sum of incomes is exact, and rounded only then.
func TestEntropyOfExactSum(t *testing.T) {
	list := slices.Concat([]int64{16777216}, slices.Repeat([]int64{1}, impl.MaxPeople-1))
	got, ok := impl.EntropyOf(list)
	isReal(t, "EntropyOf a great income and many of 1", got, ok, slowEntropy(list))
	stepwise := float32(16777216) // the sum if each step were rounded
	x := div(1, div(stepwise, impl.MaxPeople))
	isTrue(t, "the mean tells both sums apart", x != div(1, div(float32(sumOf(list)), impl.MaxPeople)))
}

func slowChanged(before, after []int64) int64 {
	changed := int64(0)
	for i := range before {
		for k := range before {
			if before[i] > before[k] && after[i] < after[k] {
				changed++
			}
		}
	}
	return changed
}

func TestChangedRanks(t *testing.T) {
	const most = 1000000000
	for _, c := range []struct {
		before, after []int64
		want          int64
	}{
		{[]int64{3, 1}, []int64{1, 3}, 1},
		{[]int64{1, 3}, []int64{3, 1}, 1},
		{[]int64{1, 3}, []int64{2, 9}, 0},
		{[]int64{3, 1}, []int64{2, 0}, 0},
		{[]int64{3, 3}, []int64{1, 3}, 0}, // equal before
		{[]int64{3, 1}, []int64{2, 2}, 0}, // equal behind
		{[]int64{2, 2}, []int64{2, 2}, 0},
		{[]int64{5}, []int64{7}, 0},
		{[]int64{1, 2, 3, 4}, []int64{4, 3, 2, 1}, 6},
		{[]int64{1, 2, 3, 4}, []int64{2, 1, 4, 3}, 2},
		{[]int64{1, 2, 2, 4}, []int64{3, 3, 1, 2}, 3},
		{[]int64{0, most}, []int64{most, 0}, 1},
		{[]int64{0, most}, []int64{0, most}, 0},
	} {
		got, ok := impl.ChangedRanks(c.before, c.after)
		isTold(t, fmt.Sprintf("ChangedRanks(%v, %v)", c.before, c.after), got, ok, c.want)
	}
	g := lcg(192)
	for _, list := range goodIncomes() {
		size := g.one(1, 3, 50, most)
		after := slices.Clone(list)
		for i := range after {
			after[i] = g.below(size)
		}
		got, ok := impl.ChangedRanks(list, after)
		isTold(t, fmt.Sprintf("ChangedRanks(%v, %v)", list, after), got, ok, slowChanged(list, after))
		isNone(t, "ChangedRanks of more behind", results(impl.ChangedRanks(list[1:], after)))
		isNone(t, "ChangedRanks of less behind", results(impl.ChangedRanks(list, after[1:])))
	}
	up := make([]int64, impl.MaxPeople)
	for i := range up {
		up[i] = int64(i)
	}
	down := slices.Clone(up)
	slices.Reverse(down)
	got, ok := impl.ChangedRanks(up, down)
	isTold(t, "ChangedRanks of all pairs", got, ok, impl.MaxPeople*(impl.MaxPeople-1)/2)
	for _, list := range badIncomes() {
		fine := make([]int64, len(list))
		isNone(t, fmt.Sprintf("ChangedRanks(%v) behind", list), results(impl.ChangedRanks(fine, list)))
		isNone(t, fmt.Sprintf("ChangedRanks(%v) before", list), results(impl.ChangedRanks(list, fine)))
	}
}

// Any number of workers makes the same.
func TestUnevenShared(t *testing.T) {
	many := [][]int64{{3, 1}, {5}, {0, 0, 0, 7}, {2, 3, 4}}
	for workers := int64(1); workers <= impl.MaxWorkers; workers++ {
		above, below, ok := impl.UnevenShared(many, workers)
		isList(t, "the upper numbers of UnevenShared", above, ok, 1, 0, 3, 4)
		isList(t, "the lower numbers of UnevenShared", below, ok, 4, 1, 4, 27)
		above, below, ok = impl.UnevenShared(nil, workers)
		isList(t, "the upper numbers of no lists", above, ok)
		isList(t, "the lower numbers of no lists", below, ok)
	}
	for _, workers := range []int64{-1, 0, impl.MaxWorkers + 1, math.MinInt64, math.MaxInt64} {
		isNone(t, fmt.Sprintf("UnevenShared by %d workers", workers), results(impl.UnevenShared(many, workers)))
		isNone(t, fmt.Sprintf("UnevenShared of nothing by %d workers", workers), results(impl.UnevenShared(nil, workers)))
	}
	isNone(t, "UnevenShared of too many", results(impl.UnevenShared(slices.Repeat([][]int64{{1}}, 17), 2)))
	for _, bad := range append(badIncomes(), []int64{0}, []int64{0, 0}) {
		for i := range many {
			lists := slices.Clone(many)
			lists[i] = bad
			isNone(t, fmt.Sprintf("UnevenShared(%v)", lists), results(impl.UnevenShared(lists, 2)))
		}
	}
}

func TestUnevenSharedByAnyWorkers(t *testing.T) {
	all := slices.DeleteFunc(goodIncomes(), func(list []int64) bool { return sumOf(list) == 0 })
	g := lcg(193)
	for len(all) > 0 {
		many := all[:min(len(all), int(1+g.below(15)))]
		all = all[len(many):]
		for workers := int64(1); workers <= impl.MaxWorkers; workers++ {
			above, below, ok := impl.UnevenShared(many, workers)
			if !ok || len(above) != len(many) || len(below) != len(many) {
				t.Fatalf("UnevenShared(%v, %d): got %v %v %v", many, workers, above, below, ok)
			}
			for i, list := range many {
				isFraction(t, fmt.Sprintf("UnevenShared of %v", list), above[i], below[i], ok, slowUneven(list))
			}
		}
	}
	_, _, ok := impl.UnevenShared(slices.Repeat([][]int64{{1, 2}}, 16), 3)
	isTrue(t, "UnevenShared of as many as there may be", ok)
}
