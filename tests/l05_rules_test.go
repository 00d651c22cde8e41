package tests

import (
	"fmt"
	"math"
	"slices"
	"testing"

	"loop.example/g01393/impl"
)

func TestChapter5Limits(t *testing.T) {
	isInt(t, "MaxAtoms", impl.MaxAtoms, 16)
	isInt(t, "MaxRules", impl.MaxRules, 24)
	isInt(t, "MaxIfs", impl.MaxIfs, 6)
	isInt(t, "MaxDay", impl.MaxDay, 100000)
	isInt(t, "MaxRows", impl.MaxRows, 32)
	isInt(t, "MaxCases", impl.MaxCases, 8)
}

func TestValidRule(t *testing.T) {
	for _, list := range goodRules() {
		for _, r := range list {
			isTrue(t, fmt.Sprintf("ValidRule(%v)", r), impl.ValidRule(r))
		}
	}
	for _, r := range badRule() {
		isFalse(t, fmt.Sprintf("ValidRule(%v)", r), impl.ValidRule(r))
	}
	for _, head := range words() {
		isTrue(t, fmt.Sprintf("ValidRule for %d", head), impl.ValidRule(ruleOf(head, 0, 0, 0, head)))
	}
	isTrue(t, "ValidRule of a rule that needs its opposite", impl.ValidRule(ruleOf(1, 0, 0, 0, -1)))
	isFalse(t, "ValidRule of the zero struct", impl.ValidRule(impl.Rule{}))
}

func TestAreRules(t *testing.T) {
	for _, list := range goodRules() {
		isTrue(t, fmt.Sprintf("AreRules(%v)", list), impl.AreRules(list))
	}
	for _, list := range badRules() {
		isFalse(t, fmt.Sprintf("AreRules(%v)", list), impl.AreRules(list))
	}
	isTrue(t, "AreRules of an empty list", impl.AreRules([]impl.Rule{}))
}

func TestSameRules(t *testing.T) {
	all := slices.Concat(goodRules()[:60], badRules())
	for i, a := range all {
		for j, b := range all {
			want := fmt.Sprint(a) == fmt.Sprint(b)
			if got := impl.SameRules(a, b); got != want {
				t.Errorf("SameRules of %d and %d: got %v, want %v", i, j, got, want)
			}
		}
		isTrue(t, "SameRules of a copy", impl.SameRules(a, cloned(a)))
	}
	isTrue(t, "SameRules of no rules", impl.SameRules(nil, []impl.Rule{}))
	isTrue(t, "SameRules of no Ifs", impl.SameRules([]impl.Rule{{Head: 1}}, []impl.Rule{{Head: 1, Ifs: []int64{}}}))
	isFalse(t, "SameRules of Ifs that belong to others", impl.SameRules([]impl.Rule{{Ifs: []int64{1}}, {}}, []impl.Rule{{}, {Ifs: []int64{1}}}))
}

// One integer that differs is enough, also in rules that are not valid.
func TestSameRulesWithOneChange(t *testing.T) {
	base := func() []impl.Rule {
		return []impl.Rule{ruleOf(1, 2, 3, 4, 5, 6), ruleOf(-50, 9, 3, -1, 7, 7, math.MinInt64)}
	}
	isTrue(t, "SameRules of equal ones", impl.SameRules(base(), base()))
	for i := range base() {
		for place, change := range []func(r *impl.Rule){
			func(r *impl.Rule) { r.Head++ },
			func(r *impl.Rule) { r.From++ },
			func(r *impl.Rule) { r.To++ },
			func(r *impl.Rule) { r.Rank++ },
			func(r *impl.Rule) { r.Ifs[0]++ },
			func(r *impl.Rule) { r.Ifs[len(r.Ifs)-1]++ },
			func(r *impl.Rule) { r.Ifs = r.Ifs[1:] },
			func(r *impl.Rule) { r.Ifs = append(r.Ifs, 0) },
			func(r *impl.Rule) { r.Head, r.From = r.From, r.Head },
			func(r *impl.Rule) { r.From, r.To = r.To, r.From },
		} {
			other := base()
			change(&other[i])
			isFalse(t, fmt.Sprintf("SameRules with the change %d", place), impl.SameRules(base(), other))
			isFalse(t, fmt.Sprintf("SameRules with the change %d", place), impl.SameRules(other, base()))
		}
		isFalse(t, "SameRules of a part", impl.SameRules(base(), base()[:i]))
		isFalse(t, "SameRules of a whole", impl.SameRules(base()[:i], base()))
	}
}

func TestActiveRules(t *testing.T) {
	const most = impl.MaxDay
	list := []impl.Rule{ruleOf(1, 3, 5, 0), ruleOf(1, 0, 0, 0), ruleOf(1, 5, 5, 0), ruleOf(1, most, most, 0), ruleOf(1, 0, most, 0)}
	for _, c := range []struct {
		day  int64
		want []int64
	}{
		{0, []int64{1, 4}}, {1, []int64{4}}, {2, []int64{4}}, {3, []int64{0, 4}}, {4, []int64{0, 4}}, {5, []int64{0, 2, 4}},
		{6, []int64{4}}, {most - 1, []int64{4}}, {most, []int64{3, 4}},
	} {
		got, ok := impl.ActiveRules(list, c.day)
		isList(t, fmt.Sprintf("ActiveRules on day %d", c.day), got, ok, c.want...)
	}
	got, ok := impl.ActiveRules(list[:1], 6)
	isList(t, "ActiveRules, none of which is active", got, ok)
	got, ok = impl.ActiveRules(nil, most)
	isList(t, "ActiveRules of no rules", got, ok)
}

func TestClashesOf(t *testing.T) {
	const most = impl.MaxDay
	for _, c := range []struct {
		list []impl.Rule
		want []int64
	}{
		{nil, nil},
		{[]impl.Rule{always(1, 0)}, nil},
		{[]impl.Rule{always(1, 0), always(-1, 0)}, []int64{0, 1}},
		{[]impl.Rule{always(-1, 7), always(1, 7)}, []int64{0, 1}},
		{[]impl.Rule{always(1, 7), always(-1, 8)}, nil},
		{[]impl.Rule{always(1, 7), always(-1, 6)}, nil},
		{[]impl.Rule{always(1, 7), always(1, 7)}, nil},
		{[]impl.Rule{always(1, 7), always(-2, 7)}, nil},
		{[]impl.Rule{always(1, 7, 2, 3), always(-1, 7, 4)}, []int64{0, 1}},
		{[]impl.Rule{always(1, 7, 2, 3), always(-1, 7, 2, 3)}, []int64{0, 1}},
		{[]impl.Rule{always(1, 7, 2, 3), always(-1, 7, -3)}, nil},
		{[]impl.Rule{always(1, 7, -2), always(-1, 7, 2, 3)}, nil},
		{[]impl.Rule{always(1, 7, 1), always(-1, 7, -1)}, nil},
		{[]impl.Rule{always(1, 7, -1), always(-1, 7, 2)}, []int64{0, 1}}, // the Ifs of each one may be opposite to its own Head
		{[]impl.Rule{always(1, 7), always(2, 7), always(-1, 7), always(-2, 7), always(-1, 7), always(1, 8)}, []int64{0, 2, 0, 4, 1, 3}},
		{[]impl.Rule{always(-1, 7), always(1, 7), always(-1, 7), always(1, 7)}, []int64{0, 1, 0, 3, 1, 2, 2, 3}},
	} {
		got, ok := impl.ClashesOf(c.list, 5)
		isList(t, fmt.Sprintf("ClashesOf(%v)", c.list), got, ok, c.want...)
	}
	for _, c := range []struct {
		from, to int64
		want     []int64
	}{{0, 4, nil}, {6, most, nil}, {5, 5, []int64{0, 1}}, {0, 5, []int64{0, 1}}, {5, most, []int64{0, 1}}} {
		got, ok := impl.ClashesOf([]impl.Rule{always(1, 0), ruleOf(-1, c.from, c.to, 0)}, 5)
		isList(t, fmt.Sprintf("ClashesOf with a rule from %d to %d", c.from, c.to), got, ok, c.want...)
	}
}

func TestClashesOfAllPairs(t *testing.T) {
	for _, list := range goodRules() {
		for _, day := range []int64{0, 5, 20} {
			var want []int64
			for i, a := range list {
				for k, b := range list {
					opposed := someOf(a.Ifs, func(one int64) bool { return someOf(b.Ifs, func(other int64) bool { return one+other == 0 }) })
					both := a.From <= day && day <= a.To && b.From <= day && day <= b.To
					if i < k && both && a.Head+b.Head == 0 && a.Rank == b.Rank && !opposed {
						want = append(want, int64(i), int64(k))
					}
				}
			}
			got, ok := impl.ClashesOf(list, day)
			isList(t, fmt.Sprintf("ClashesOf(%v, %d)", list, day), got, ok, want...)
		}
	}
}

func TestNeedsOf(t *testing.T) {
	chain := []impl.Rule{always(4, 0, 3), always(-3, 0, -2, 9), always(2, 0, 1), ruleOf(1, 6, 9, 0, 5), always(7, 0, 4)}
	for _, c := range []struct {
		list []impl.Rule
		x    int64
		want []int64
	}{
		{nil, 16, []int64{16}},
		{nil, -16, []int64{16}},
		{[]impl.Rule{always(1, 0, 1)}, 1, []int64{1}},
		{[]impl.Rule{always(1, 0, -1)}, -1, []int64{1}},
		{[]impl.Rule{always(1, 0, 2), always(2, 0, 3), always(3, 0, 1)}, -2, []int64{1, 2, 3}},
		{chain, 4, []int64{1, 2, 3, 4, 9}},
		{chain, 7, []int64{1, 2, 3, 4, 7, 9}},
		{chain, 2, []int64{1, 2}},
		{chain, 1, []int64{1}},
		{chain, 9, []int64{9}},
		{chain, -3, []int64{1, 2, 3, 9}},
		{[]impl.Rule{always(5, 0)}, 5, []int64{5}},
	} {
		got, ok := impl.NeedsOf(c.list, 5, c.x)
		isList(t, fmt.Sprintf("NeedsOf(%v, 5, %d)", c.list, c.x), got, ok, c.want...)
	}
	got, ok := impl.NeedsOf(chain, 6, 4)
	isList(t, "NeedsOf on the first day of a rule", got, ok, 1, 2, 3, 4, 5, 9)
	got, ok = impl.NeedsOf(chain, 10, 4)
	isList(t, "NeedsOf behind the last day of a rule", got, ok, 1, 2, 3, 4, 9)
}

func TestNeedsOfByPaths(t *testing.T) {
	for _, list := range goodRules() {
		for _, x := range []int64{1, -2, 3, 16} {
			found := map[int64]bool{}
			var visit func(atom int64)
			visit = func(atom int64) {
				if found[atom] {
					return
				}
				found[atom] = true
				for _, r := range list {
					if (r.Head == atom || r.Head == -atom) && r.From <= 5 && r.To >= 5 {
						for _, word := range r.Ifs {
							visit(max(word, -word))
						}
					}
				}
			}
			visit(max(x, -x))
			var want []int64
			for atom := range int64(17) {
				if found[atom] {
					want = append(want, atom)
				}
			}
			got, ok := impl.NeedsOf(list, 5, x)
			isList(t, fmt.Sprintf("NeedsOf(%v, 5, %d)", list, x), got, ok, want...)
		}
	}
}

func TestChangeDays(t *testing.T) {
	const most = impl.MaxDay
	for _, c := range []struct {
		list []impl.Rule
		want []int64
	}{
		{nil, nil},
		{[]impl.Rule{ruleOf(1, 0, most, 0)}, nil},
		{[]impl.Rule{ruleOf(1, 0, 9, 0)}, []int64{10}},
		{[]impl.Rule{ruleOf(1, 0, 0, 0)}, []int64{1}},
		{[]impl.Rule{ruleOf(1, 1, most, 0)}, []int64{1}},
		{[]impl.Rule{ruleOf(1, most, most, 0)}, []int64{most}},
		{[]impl.Rule{ruleOf(1, 0, most-1, 0)}, []int64{most}},
		{[]impl.Rule{ruleOf(1, 5, 5, 0)}, []int64{5, 6}},
		{[]impl.Rule{ruleOf(1, 5, 9, 0), ruleOf(1, 5, 9, 0)}, []int64{5, 10}},
		{[]impl.Rule{ruleOf(1, 0, 4, 0), ruleOf(1, 5, most, 0)}, []int64{5}}, // an equal rule, but another one
		{[]impl.Rule{ruleOf(1, 7, 8, 0), ruleOf(1, 2, 6, 0), ruleOf(3, 9, 20, 0)}, []int64{2, 7, 9, 21}},
	} {
		got, ok := impl.ChangeDays(c.list)
		isList(t, fmt.Sprintf("ChangeDays(%v)", c.list), got, ok, c.want...)
	}
}

func TestChangeDaysDayByDay(t *testing.T) {
	for _, list := range goodRules()[:80] {
		activeOn := func(day int64) [impl.MaxRules]bool {
			var active [impl.MaxRules]bool
			for i, r := range list {
				active[i] = r.From <= day && day <= r.To
			}
			return active
		}
		var want []int64
		for day := int64(1); day <= impl.MaxDay; day++ {
			if activeOn(day) != activeOn(day-1) {
				want = append(want, day)
			}
		}
		got, ok := impl.ChangeDays(list)
		isList(t, fmt.Sprintf("ChangeDays(%v)", list), got, ok, want...)
	}
}
