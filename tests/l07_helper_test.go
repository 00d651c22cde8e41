package tests

import (
	"math"
	"slices"
	"testing"

	"loop.example/g01393/impl"
)

func peopleOf(counts, stays, births []float32) impl.People {
	return impl.People{Counts: counts, Stays: stays, Births: births}
}

// evenPeople has the same numbers at all ages.
func evenPeople(ages int, count, stay, births float32) impl.People {
	all := func(x float32) []float32 { return slices.Repeat([]float32{x}, ages) }
	return peopleOf(all(count), all(stay), all(births))
}

// clonedPeople returns a copy that shares no memory with people.
func clonedPeople(p impl.People) impl.People {
	return peopleOf(slices.Clone(p.Counts), slices.Clone(p.Stays), slices.Clone(p.Births))
}

func sameReals(a, b []float32) bool {
	return slices.EqualFunc(a, b, func(x, y float32) bool { return bitsOf(x) == bitsOf(y) })
}

func samePeople(a, b impl.People) bool {
	return sameReals(a.Counts, b.Counts) && sameReals(a.Stays, b.Stays) && sameReals(a.Births, b.Births)
}

func isPeople(t *testing.T, what string, got impl.People, ok bool, want impl.People) {
	t.Helper()
	if !ok || !samePeople(got, want) {
		t.Errorf("%s: got %v %v, want %v", what, got, ok, want)
	}
}

// notFinite has infinities and not-a-numbers.
func notFinite() []float32 {
	return []float32{number(bitsInf), number(bitsNegInf), number(bitsNaN), number(bitsNegNaN), number(bitsOddNaN)}
}

// heads returns a number of at least 0, some of them at the edges.
func (g *lcg) heads() float32 {
	switch g.below(11) {
	case 0:
		return 0
	case 1:
		return minusZero()
	case 2:
		return number(uint32(1 + g.below(bitsNormal)))
	case 3:
		return number(uint32(g.below(bitsMost)))
	case 4:
		return float32(g.below(9))
	}
	return float32(g.below(1<<24)) / (1 << 12)
}

// reals returns so many numbers.
func reals(count int64, one func() float32) []float32 {
	var list []float32
	for range count {
		list = append(list, one())
	}
	return list
}

// people returns any valid people, most of whom have births of about 1.
func (g *lcg) people() impl.People {
	ages := 2 + g.below(g.one(0, 1, 3, impl.MaxAges-2))
	p := peopleOf(reals(ages, g.heads), reals(ages, g.chance), reals(ages, func() float32 { return float32(g.below(2000)) / 1000 }))
	if g.below(5) == 0 {
		p.Births = reals(ages, g.heads)
	}
	return p
}

// goodPeoples has valid people of all numbers of ages, with all numbers at their limits.
func goodPeoples() []impl.People {
	const ages = impl.MaxAges
	most, least, almost := number(bitsMost), number(bitsLeast), number(0x3f7fffff)
	all := []impl.People{
		peopleOf([]float32{10, 4}, []float32{0.5, 0}, []float32{1, 0}),
		evenPeople(2, 0, 0, 0),
		evenPeople(2, minusZero(), minusZero(), minusZero()),
		evenPeople(2, 1, 1, 1),
		evenPeople(2, 1, 1, 0),
		evenPeople(2, 1, 0, 0),
		evenPeople(2, least, almost, most),
		evenPeople(2, most, least, 0),
		evenPeople(2, most, 1, 0),
		evenPeople(2, 1, 1, most),
		evenPeople(ages, 0, 1, 1),
		evenPeople(ages, 1, 1, 1),
		evenPeople(ages, 1, almost, least),
		evenPeople(ages, most, 0.5, 0),
		evenPeople(ages, most, 0, most),
		peopleOf([]float32{0, 7}, []float32{1, 0}, []float32{0, 2}),
		peopleOf([]float32{3, minusZero(), 5}, []float32{minusZero(), 1, 0.25}, []float32{0, minusZero(), 1}),
		peopleOf([]float32{minusZero(), 0, minusZero()}, []float32{0.5, 0.5, minusZero()}, []float32{1, 1, 1}),
		peopleOf([]float32{16777216, 1, 1}, []float32{0, 0, 0}, []float32{1, 1, 1}),
	}
	g := lcg(171)
	for range 300 {
		all = append(all, g.people())
	}
	return all
}

// badPeoples has people that are not valid, each for one reason.
func badPeoples() []impl.People {
	one, two, three := []float32{1}, []float32{1, 0.5}, []float32{1, 0.5, 0.25}
	all := []impl.People{
		{},
		peopleOf(one, one, one),
		evenPeople(impl.MaxAges+1, 1, 1, 1),
		peopleOf(one, two, two), peopleOf(two, one, two), peopleOf(two, two, one),
		peopleOf(three, two, two), peopleOf(two, three, two), peopleOf(two, two, three),
		peopleOf(nil, two, two), peopleOf(two, nil, two), peopleOf(two, two, nil),
	}
	for _, x := range append(notFinite(), -1, number(0x80000001), -number(bitsMost)) {
		all = append(all,
			peopleOf([]float32{x, 1}, two, two), peopleOf([]float32{1, x}, two, two), peopleOf([]float32{1, x, 1}, three, three),
			peopleOf(two, two, []float32{x, 1}), peopleOf(two, two, []float32{1, x}), peopleOf(three, three, []float32{1, x, 1}))
	}
	for _, x := range badChances() {
		all = append(all, peopleOf(two, []float32{x, 1}, two), peopleOf(two, []float32{1, x}, two), peopleOf(three, []float32{1, x, 1}, three))
	}
	return all
}

// slowNext returns the people of the next year, valid or not, step by step.
func slowNext(p impl.People) impl.People {
	next, last := clonedPeople(p), len(p.Counts)-1
	next.Counts[0] = 0
	for age, count := range p.Counts {
		next.Counts[0] = add(next.Counts[0], mul(count, p.Births[age]))
		if age < last {
			next.Counts[age+1] = mul(count, p.Stays[age])
			continue
		}
		next.Counts[last] = add(next.Counts[last], mul(count, p.Stays[last]))
	}
	return next
}

func slowSum(list []float32) float32 {
	sum := float32(0)
	for _, x := range list {
		sum = add(sum, x)
	}
	return sum
}

func allAre(list []float32, is func(float32) bool) bool {
	return eachOf(list, is)
}

// goodIncomes has incomes of all sizes: one, as many as there may be, all 0,
// some 0, all equal, and in any order.
func goodIncomes() [][]int64 {
	const most = 1000000000
	all := [][]int64{
		{0}, {1}, {most}, {3, 1}, {1, 3}, {5, 5}, {0, 0}, {0, 1}, {1, 0}, {0, 0, 0, 7}, {7, 7, 7}, {most, 0}, {most, most},
		{1, 2, 3, 4, 5, 6, 7, 8, 9, 10}, {10, 9, 8, 7, 6, 5, 4, 3, 2, 1}, {2, 2, 1, 1, 3, 3},
		make([]int64, impl.MaxPeople), slices.Repeat([]int64{most}, impl.MaxPeople),
		slices.Repeat([]int64{0, most}, impl.MaxPeople/2), append(make([]int64, impl.MaxPeople-1), most),
		append(make([]int64, impl.MaxPeople-1), 1), append(slices.Repeat([]int64{most}, impl.MaxPeople-1), 0),
	}
	g := lcg(172)
	for range 300 {
		all = append(all, g.list(g.one(2, 5, 11, impl.MaxPeople), g.one(1, 2, 5, 100, 100000, most)))
	}
	return all
}

// badIncomes has lists that are no incomes, each for one reason.
func badIncomes() [][]int64 {
	all := [][]int64{nil, {}, make([]int64, impl.MaxPeople+1), slices.Repeat([]int64{5}, impl.MaxPeople+1)}
	for _, n := range []int64{-1, 1000000001, math.MinInt64, math.MaxInt64} {
		all = append(all, []int64{n}, []int64{n, 5, 5}, []int64{5, n, 5}, []int64{5, 5, n})
	}
	return all
}

// shuffled returns a list in any order.
func shuffled[T any](g *lcg, list []T) []T {
	list = slices.Clone(list)
	for i := range list {
		k := g.below(int64(i))
		list[i], list[k] = list[k], list[i]
	}
	return list
}

func savedOf(name string, rules []impl.Rule, incomes ...int64) impl.Saved {
	return impl.Saved{Name: name, Rules: rules, Incomes: incomes}
}

func sameSaved(a, b impl.Saved) bool {
	return a.Name == b.Name && slices.EqualFunc(a.Rules, b.Rules, sameRule) && slices.Equal(a.Incomes, b.Incomes)
}

func isSaved(t *testing.T, what string, got impl.Saved, ok bool, want impl.Saved) {
	t.Helper()
	if !ok || !sameSaved(got, want) {
		t.Errorf("%s: got %v %v, want %v", what, got, ok, want)
	}
}

// longestRules has as many rules as there may be, with texts as long as they may be.
func longestRules() []impl.Rule {
	const most = impl.MaxDay
	return slices.Repeat([]impl.Rule{ruleOf(-16, most, most, 100, -11, -12, -13, -14, -15, -16)}, impl.MaxRules)
}

// goodSaved has names, rules and incomes of all sizes.
func goodSaved() []impl.Saved {
	const most = 1000000000
	all := []impl.Saved{
		savedOf("a", []impl.Rule{ruleOf(1, 0, 0, 0)}, 7),
		savedOf("a", nil, 0),
		savedOf("z", nil, 255, 256, 65535, 65536, 16777215, 16777216),
		savedOf("abcdefgh", longestRules(), slices.Repeat([]int64{most}, impl.MaxPeople)...),
		savedOf("zzzzzzzz", longestRules()[1:], make([]int64, impl.MaxPeople)...),
	}
	g := lcg(173)
	for _, rules := range goodRules()[:120] {
		name := string(slices.Repeat([]byte{byte('a' + g.below(25))}, int(1+g.below(7))))
		all = append(all, savedOf(name, rules, g.list(g.one(1, 3, impl.MaxPeople), g.one(9, 1000, most))...))
	}
	return all
}

// badSaved has Saved that are not valid, each for one reason.
func badSaved() []impl.Saved {
	rules := []impl.Rule{ruleOf(2, 0, 9, 1, 1)}
	var all []impl.Saved
	for _, name := range badNames() {
		all = append(all, savedOf(name, rules, 7))
	}
	for _, list := range badRules() {
		all = append(all, savedOf("name", list, 7))
	}
	for _, list := range badIncomes() {
		all = append(all, savedOf("name", rules, list...))
	}
	return all
}

func badNames() []string {
	return []string{"", "abcdefghi", "A", "aZ", "a b", "a1", "a_", "`", "{", "\x00", "a\n", "\u00e9", "a\xff"}
}

// slowStored returns the bytes of a Saved, valid or not.
func slowStored(s impl.Saved) string {
	text := ""
	for _, r := range s.Rules {
		one, _ := impl.RuleText(r)
		text += one + "\n"
	}
	stored := "DUE1" + string([]byte{byte(len(s.Name))}) + s.Name + string([]byte{byte(len(text) % 256), byte(len(text) / 256)}) + text
	stored += string([]byte{byte(len(s.Incomes))})
	for _, n := range s.Incomes {
		stored += string([]byte{byte(n % 256), byte(n / 256 % 256), byte(n / 65536 % 256), byte(n / 16777216)})
	}
	return stored + slowCheck(stored)
}

// slowCheck returns the two bytes of a check number.
func slowCheck(s string) string {
	check := 0
	for i := range len(s) {
		check = (971*check + int(s[i]) + 229) % 65003
	}
	return string([]byte{byte(check % 256), byte(check / 256)})
}
