package tests

import (
	"fmt"
	"math"
	"math/cmplx"
	"slices"
	"testing"

	"loop.example/g01393/impl"
)

// Promise 8: people go on year by year, unevenness does not mind the order or
// the unit, and rules and incomes are loaded as they were stored.

// Years one after another are as many years at once, and births and stays last.
func TestPromise8YearByYear(t *testing.T) {
	for i, p := range goodPeoples() {
		now, alive := p, true
		for years := range int64(impl.MaxYears) {
			what := fmt.Sprintf("RunPeople(%v, %d)", p, years)
			got, ok := impl.RunPeople(p, years)
			if !alive {
				isNone(t, what, results(got, ok))
				continue
			}
			isPeople(t, what, got, ok, now)
			isTrue(t, "births and stays last in "+what, sameReals(got.Stays, p.Stays) && sameReals(got.Births, p.Births))
			isTrue(t, "SamePeople of "+what, impl.SamePeople(got, now))
			now, alive = impl.NextPeople(now)
		}
		first := int64(i) % 30
		for _, more := range []int64{0, 1, 5, 34} {
			half, ok := impl.RunPeople(p, first)
			rest, alsoOK := impl.RunPeople(half, more)
			all, wholeOK := impl.RunPeople(p, first+more)
			what := fmt.Sprintf("RunPeople(%v) of %d years and %d more", p, first, more)
			isTrue(t, what, (ok && alsoOK) == wholeOK && samePeople(rest, all))
		}
	}
}

// Those who stay are one year older: nobody comes but by birth, and nobody who
// stays is lost, nearly.
func TestPromise8NobodyIsLost(t *testing.T) {
	for _, p := range goodPeoples() {
		next, ok := impl.NextPeople(p)
		if !ok {
			continue
		}
		stay, born, left := 0.0, 0.0, 0.0
		for age, count := range p.Counts {
			stay += float64(count) * float64(p.Stays[age])
			born += float64(count) * float64(p.Births[age])
		}
		for _, count := range next.Counts[1:] {
			left += float64(count)
		}
		isTrue(t, fmt.Sprintf("NextPeople(%v): got %v, of whom %v are not new, want %v", p, next, left, stay), math.Abs(left-stay) <= 1e-5*stay+1e-40)
		isTrue(t, fmt.Sprintf("NextPeople(%v): got %v, want %v births", p, next, born), math.Abs(float64(next.Counts[0])-born) <= 1e-5*born+1e-40)
	}
}

// Growth is what people become more by in a year, and shares make the whole.
func TestPromise8Growth(t *testing.T) {
	told := 0
	for _, p := range goodPeoples() {
		for _, rounds := range []int64{1, 2, 17, impl.MaxYears} {
			growth, shares, ok := impl.GrowthOf(p, rounds)
			if !ok {
				continue
			}
			told++
			what := fmt.Sprintf("GrowthOf(%v, %d): got %v %v", p, rounds, growth, shares)
			sum := 0.0
			for _, share := range shares {
				sum += float64(share)
			}
			isTrue(t, what, growth >= 0 && finite(growth) && len(shares) == len(p.Counts) && math.Abs(sum-1) < 1e-5)
			before, _ := impl.RunPeople(p, rounds-1)
			behind, alive := impl.RunPeople(p, rounds)
			if whole, some := float64(slowSum(behind.Counts)), float64(slowSum(before.Counts)); alive && some > 1e-20 && whole < 1e30 {
				isTrue(t, fmt.Sprintf("%s, but %v became %v", what, some, whole), math.Abs(float64(growth)-whole/some) < 1e-3*whole/some+1e-10)
			}
		}
	}
	isTrue(t, fmt.Sprintf("many people grow: %d", told), told > 500)
}

// People who grow as they do for ever renew themselves just once at this growth.
func TestPromise8RenewalAtGrowth(t *testing.T) {
	g := lcg(221)
	for range 300 {
		ages := 2 + g.below(4)
		part := func() float32 { return float32(200+g.below(800)) / 1000 }
		p := peopleOf(reals(ages, part), reals(ages, part), reals(ages, part))
		p.Stays[ages-1] = 0 // as it is not looked at
		growth, _, ok := impl.GrowthOf(p, impl.MaxYears)
		renewed, alsoOK := impl.RenewalAt(p, complex(growth, 0))
		what := fmt.Sprintf("RenewalAt(%v, %v): got %v", p, growth, renewed)
		isTrue(t, what, ok && alsoOK && cmplx.Abs(complex128(renewed)-1) < 1e-3)
		turned, _ := impl.RenewalAt(p, complex(0, growth))
		other, _ := impl.RenewalAt(p, complex(0, -growth))
		isTrue(t, "the conjugate of "+what, other == impl.ConjugateOf(turned))
	}
}

// unevenness tells what does not depend on the order of incomes, as text.
func unevenness(list []int64, line int64) string {
	above, below, one := impl.UnevenOf(list)
	curve, two := impl.EvennessCurve(list)
	tenths, three := impl.TenParts(list)
	poor, gap, four := impl.PoorOf(list, line)
	s := fmt.Sprint(above, below, one, curve, two, tenths, three, poor, gap, four)
	for count := range len(list) + 1 {
		s += fmt.Sprint(results(impl.ShareOfTop(list, int64(count))))
	}
	return s
}

func TestPromise8AnyOrder(t *testing.T) {
	g := lcg(222)
	for _, list := range goodIncomes() {
		line := g.below(slices.Max(list))
		want := unevenness(list, line)
		up, down := slices.Sorted(slices.Values(list)), slices.Sorted(slices.Values(list))
		slices.Reverse(down)
		for _, other := range [][]int64{up, down, shuffled(&g, list), shuffled(&g, list)} {
			if got := unevenness(other, line); got != want {
				t.Errorf("unevenness of %v: got %s, want %s as of %v", other, got, want, list)
			}
		}
		entropy, ok := impl.EntropyOf(list)
		turned, alsoOK := impl.EntropyOf(up)
		isTrue(t, fmt.Sprintf("EntropyOf(%v): got %v, and %v in order", list, entropy, turned), ok == alsoOK && math.Abs(float64(entropy-turned)) < 1e-4)
	}
}

// timesInt returns all incomes in a unit that is so much less.
func timesInt(list []int64, by int64) []int64 {
	var products []int64
	for _, n := range list {
		products = append(products, n*by)
	}
	return products
}

func TestPromise8AnyUnit(t *testing.T) {
	g := lcg(223)
	for _, list := range goodIncomes() {
		for _, by := range []int64{2, 3, 10, 100, 997, 1000000000 / max(1, slices.Max(list))} {
			if slices.Max(list)*by > 1000000000 || by == 0 {
				continue
			}
			other, line := timesInt(list, by), g.below(slices.Max(list))
			what := fmt.Sprintf("of %v times %d", list, by)
			isTrue(t, "UnevenOf "+what, fmt.Sprint(results(impl.UnevenOf(other))) == fmt.Sprint(results(impl.UnevenOf(list))))
			for count := range int64(len(list) + 1) {
				isTrue(t, "ShareOfTop "+what, fmt.Sprint(results(impl.ShareOfTop(other, count))) == fmt.Sprint(results(impl.ShareOfTop(list, count))))
			}
			curve, ok := impl.EvennessCurve(list)
			told, alsoOK := impl.EvennessCurve(other)
			isList(t, "EvennessCurve "+what, told, ok && alsoOK, timesInt(curve, by)...)
			tenths, ok := impl.TenParts(list)
			told, alsoOK = impl.TenParts(other)
			isList(t, "TenParts "+what, told, ok && alsoOK, timesInt(tenths, by)...)
			poor, gap, ok := impl.PoorOf(list, line)
			count, lacks, alsoOK := impl.PoorOf(other, line*by)
			isList(t, "PoorOf "+what, []int64{count, lacks}, ok && alsoOK, poor, gap*by)
			entropy, _ := impl.EntropyOf(list)
			near, _ := impl.EntropyOf(other)
			isTrue(t, fmt.Sprintf("EntropyOf %s: got %v, nearly %v", what, near, entropy), math.Abs(float64(entropy-near)) < 1e-4)
		}
	}
}

// Ranks change as often, in whatever order places are, and in any unit; the
// other way, too; and all places are changed by ranks that are turned around.
func TestPromise8Ranks(t *testing.T) {
	g := lcg(224)
	for _, list := range goodIncomes() {
		after := shuffled(&g, list)
		want, ok := impl.ChangedRanks(list, after)
		isTrue(t, "ChangedRanks succeeds", ok)
		turned, ok := impl.ChangedRanks(after, list)
		isTold(t, fmt.Sprintf("ChangedRanks(%v, %v)", after, list), turned, ok, want)
		same, ok := impl.ChangedRanks(list, list)
		isTold(t, fmt.Sprintf("ChangedRanks(%v) of itself", list), same, ok, 0)
		var places []int
		for i := range list {
			places = append(places, i)
		}
		var before, behind []int64
		for _, i := range shuffled(&g, places) {
			before, behind = append(before, list[i]), append(behind, after[i])
		}
		moved, ok := impl.ChangedRanks(before, behind)
		isTold(t, fmt.Sprintf("ChangedRanks(%v, %v)", before, behind), moved, ok, want)
		if slices.Max(list) <= 100000000 {
			moved, ok = impl.ChangedRanks(timesInt(list, 7), timesInt(after, 10))
			isTold(t, fmt.Sprintf("ChangedRanks(%v, %v) in other units", list, after), moved, ok, want)
		}
	}
}

// Unevenness is 0 if all incomes are equal, and less than 1; nobody who gives
// to one with less makes it greater.
func TestPromise8LessUneven(t *testing.T) {
	g := lcg(225)
	for _, list := range goodIncomes() {
		above, below, ok := impl.UnevenOf(list)
		if !ok {
			continue
		}
		what := fmt.Sprintf("UnevenOf(%v): got %d/%d", list, above, below)
		isTrue(t, what, above >= 0 && above < below && (above == 0) == (slices.Min(list) == slices.Max(list)))
		for range 5 {
			i, k := g.below(int64(len(list)-1)), g.below(int64(len(list)-1))
			if list[i] < list[k] {
				i, k = k, i
			}
			gift := g.below((list[i] - list[k]) / 2)
			other := slices.Clone(list)
			other[i], other[k] = other[i]-gift, other[k]+gift
			less, of, _ := impl.UnevenOf(other)
			isTrue(t, fmt.Sprintf("%s, but %d/%d for %v", what, less, of, other), float64(less)/float64(of) <= float64(above)/float64(below)+1e-12)
		}
	}
}

// Any number of workers makes the same as none.
func TestPromise8Workers(t *testing.T) {
	g := lcg(226)
	all := slices.DeleteFunc(goodIncomes(), func(list []int64) bool { return sumOf(list) == 0 })
	for range 60 {
		many := shuffled(&g, all)[:g.below(16)]
		for workers := int64(1); workers <= impl.MaxWorkers; workers++ {
			above, below, ok := impl.UnevenShared(many, workers)
			isTrue(t, "UnevenShared succeeds", ok && len(above) == len(many) && len(below) == len(many))
			for i, list := range many {
				x, y, _ := impl.UnevenOf(list)
				isList(t, fmt.Sprintf("UnevenShared of %v", list), []int64{above[i], below[i]}, ok, x, y)
			}
		}
	}
}

func TestPromise8LoadedAsStored(t *testing.T) {
	all := goodSaved()
	for _, s := range all {
		stored, ok := impl.StoreSaved(s)
		back, alsoOK := impl.LoadSaved(stored)
		isSaved(t, fmt.Sprintf("LoadSaved(%q)", stored), back, ok && alsoOK, s)
		isTrue(t, "SameSaved of what is loaded", impl.SameSaved([]impl.Saved{back}, []impl.Saved{s}))
	}
	for from := range len(all) - impl.MaxSaved {
		list := all[from : from+from%(impl.MaxSaved+1)]
		stored, ok := impl.StoreAll(list)
		back, n, alsoOK := impl.RecoverAll(stored)
		isTrue(t, fmt.Sprintf("RecoverAll(%q): got %v and %d", stored, back, n), ok && alsoOK && int(n) == len(stored) && impl.SameSaved(back, list))
	}
}

// isBeginning checks that what is recovered is what lies ahead of a byte.
func isBeginning(t *testing.T, what, s string, list []impl.Saved, ahead int) {
	t.Helper()
	back, n, ok := impl.RecoverAll(s)
	stored, alsoOK := impl.StoreAll(back)
	if !ok || !alsoOK || int(n) != len(stored) || s[:n] != stored || !impl.SameSaved(back, list[:ahead]) {
		t.Errorf("RecoverAll of what is %s: got %v and %d, want %d of %v", what, back, n, ahead, list)
	}
}

// filesToBreak has lists whose bytes can all be changed one after another.
func filesToBreak() [][]impl.Saved {
	rules := []impl.Rule{ruleOf(2, 0, 9, 1, 1), ruleOf(-2, 3, 5, 2, 3, -4)}
	return [][]impl.Saved{
		{savedOf("a", nil, 0)},
		{savedOf("a", nil, 0), savedOf("a", nil, 0), savedOf("a", nil, 0)},
		{savedOf("abc", rules, 7, 1000000000), savedOf("zzzzzzzz", nil, 1, 2, 3, 4, 5), savedOf("b", rules[1:], 256)},
		{savedOf("b", nil, 5), savedOf("abcdefgh", longestRules(), slices.Repeat([]int64{123456789}, impl.MaxPeople)...), savedOf("c", nil, 6)},
	}
}

// aheadOf tells how many of a list end at most at a byte.
func aheadOf(list []impl.Saved, at int) int {
	for i, s := range list {
		at -= len(slowStored(s))
		if at < 0 {
			return i
		}
	}
	return len(list)
}

func TestPromise8CutAnywhere(t *testing.T) {
	for _, list := range filesToBreak() {
		stored, _ := impl.StoreAll(list)
		for end := range len(stored) + 1 {
			isBeginning(t, fmt.Sprintf("cut at %d", end), stored[:end], list, aheadOf(list, end))
			isBeginning(t, fmt.Sprintf("cut at %d, with bytes behind", end), stored[:end]+"\x00DUE1", list, aheadOf(list, end))
		}
	}
}

func TestPromise8ChangedAnywhere(t *testing.T) {
	g := lcg(227)
	for _, list := range filesToBreak() {
		stored, _ := impl.StoreAll(list)
		for at := range len(stored) {
			changes := []byte{1, 0x80, 0xff, byte(1 + g.below(254))}
			if len(stored) < 300 {
				for change := 2; change < 255; change++ {
					changes = append(changes, byte(change))
				}
			}
			for _, change := range changes {
				bytes := []byte(stored)
				bytes[at] ^= change
				isBeginning(t, fmt.Sprintf("changed at %d by %d", at, change), string(bytes), list, aheadOf(list, at))
			}
			isBeginning(t, fmt.Sprintf("without the byte %d", at), stored[:at]+stored[at+1:], list, aheadOf(list, at))
			isBeginning(t, fmt.Sprintf("with a byte more at %d", at), stored[:at]+"\x01"+stored[at:], list, aheadOf(list, at))
		}
	}
}
