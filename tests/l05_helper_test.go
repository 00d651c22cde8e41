package tests

import (
	"math"
	"regexp"
	"slices"
	"strconv"
	"strings"
	"testing"

	"loop.example/g01393/impl"
)

// ruleOf returns a rule.
func ruleOf(head, from, to, rank int64, ifs ...int64) impl.Rule {
	return impl.Rule{Head: head, Ifs: ifs, From: from, To: to, Rank: rank}
}

// always returns a rule that is active on all days.
func always(head, rank int64, ifs ...int64) impl.Rule {
	return ruleOf(head, 0, impl.MaxDay, rank, ifs...)
}

// cloned returns a copy of rules that shares no memory with them.
func cloned(list []impl.Rule) []impl.Rule {
	list = slices.Clone(list)
	for i := range list {
		list[i].Ifs = slices.Clone(list[i].Ifs)
	}
	return list
}

// sameRule compares two rules, of which the Ifs may be nil or empty.
func sameRule(a, b impl.Rule) bool {
	return a.Head == b.Head && a.From == b.From && a.To == b.To && a.Rank == b.Rank && slices.Equal(a.Ifs, b.Ifs)
}

func isRuleList(t *testing.T, what string, got []impl.Rule, ok bool, want ...impl.Rule) {
	t.Helper()
	if !ok || !slices.EqualFunc(got, want, sameRule) {
		t.Errorf("%s: got %v %v, want %v", what, got, ok, want)
	}
}

// words returns all words in the order of their atoms.
func words() []int64 {
	var all []int64
	for atom := int64(1); atom <= impl.MaxAtoms; atom++ {
		all = append(all, atom, -atom)
	}
	return all
}

// goodRules has lists of rules of all sizes, with all numbers at their limits.
func goodRules() [][]impl.Rule {
	const most = impl.MaxDay
	all := [][]impl.Rule{
		nil,
		{ruleOf(1, 0, 0, 0)},
		{ruleOf(-16, most, most, 100, -1, 2, -3, 4, -15, 16)},
		{ruleOf(2, 0, 9, 1, 1), ruleOf(-2, 0, 5, 2, 3), ruleOf(4, 0, 9, 0, 2)},
		{always(1, 0, 1)},
		{always(1, 0, 2), always(2, 0, 3), always(3, 0, 1)},
		{always(1, 5), always(-1, 5), always(2, 5), always(-2, 4)},
		{ruleOf(16, 0, most, 100, 11, 12, 13, 14, 15, 16), ruleOf(-1, 5, 5, 7, -16)},
		slices.Repeat([]impl.Rule{ruleOf(3, 1, 8, 2, 4)}, impl.MaxRules),
		slices.Repeat([]impl.Rule{always(3, 2), always(-3, 2, 5)}, impl.MaxRules/2),
	}
	g := lcg(31)
	for range 400 {
		all = append(all, g.rules())
	}
	return all
}

// rules returns any rules of few atoms, so that many of them have to do with others.
func (g *lcg) rules() []impl.Rule {
	atoms, ranks, days, ifs := g.one(2, 3, 4, 6, impl.MaxAtoms), g.one(0, 1, 2, 100), g.one(0, 0, 9, 30), g.one(1, 2, 3, impl.MaxIfs)
	var list []impl.Rule
	for range g.one(g.below(6), g.below(impl.MaxRules), impl.MaxRules) {
		r := ruleOf(g.word(atoms), 0, days, g.below(ranks), g.words(atoms, min(ifs, atoms))...)
		if days > 0 {
			r.From = g.below(days)
			r.To = r.From + g.below(days-r.From)
		}
		list = append(list, r)
	}
	return list
}

func (g *lcg) word(atoms int64) int64 {
	return (1 + g.below(atoms-1)) * g.one(1, 1, -1)
}

// words returns at most most words with ascending atoms.
func (g *lcg) words(atoms, most int64) []int64 {
	var list []int64
	for range g.below(most) {
		word := g.word(atoms)
		if !slices.Contains(list, word) && !slices.Contains(list, -word) {
			list = append(list, word)
		}
	}
	slices.SortFunc(list, func(a, b int64) int { return int(max(a, -a) - max(b, -b)) })
	return list
}

// badRule has rules that are not valid, each for one reason.
func badRule() []impl.Rule { return append(badFroms(), badButFrom()...) }

// badFroms has rules in which From alone is not as it must be.
func badFroms() []impl.Rule {
	return []impl.Rule{ruleOf(2, -1, 9, 1), ruleOf(2, 10, 9, 1), ruleOf(2, impl.MaxDay+1, impl.MaxDay, 1), ruleOf(2, math.MinInt64, 9, 1), ruleOf(2, math.MaxInt64, 9, 1)}
}

// badButFrom has rules that are not valid from any day from 3 on.
func badButFrom() []impl.Rule {
	const most = impl.MaxDay
	var all []impl.Rule
	for _, n := range []int64{math.MinInt64, math.MaxInt64} {
		all = append(all, ruleOf(n, 3, 9, 1), ruleOf(2, 3, n, 1), ruleOf(2, 3, 9, n), ruleOf(2, 3, 9, 1, n), ruleOf(2, 3, 9, 1, 1, n))
	}
	for _, head := range []int64{0, 17, -17} {
		all = append(all, ruleOf(head, 3, 9, 1), ruleOf(head, 3, 9, 1, 1))
	}
	for _, ifs := range badWords() {
		all = append(all, ruleOf(2, 3, 9, 1, ifs...))
	}
	return append(all, ruleOf(2, 3, 9, 1, 1, 2, 3, 4, 5, 6, 7), ruleOf(2, 3, 2, 1), ruleOf(2, most, most+1, 1),
		ruleOf(2, most+1, most+1, 1), ruleOf(2, -1, -1, 1), ruleOf(2, 3, 9, -1), ruleOf(2, 3, 9, 101))
}

// badWords has lists that are no words with strictly ascending atoms, each for one reason.
func badWords() [][]int64 {
	return [][]int64{
		{0}, {17}, {-17}, {1, 0}, {1, 17}, {1, -17}, {1, 1}, {-1, -1}, {1, -1}, {-1, 1}, {2, 1}, {-2, 1}, {2, -1}, {-3, -2},
		{1, 2, 2}, {1, 3, -2}, {math.MinInt64}, {math.MaxInt64}, {1, math.MinInt64}, {-5, math.MaxInt64},
	}
}

// badRules has lists that are too long, or have a rule that is not valid.
func badRules() [][]impl.Rule {
	fine := ruleOf(2, 3, 9, 1, 1)
	all := [][]impl.Rule{slices.Repeat([]impl.Rule{fine}, impl.MaxRules+1)}
	for _, bad := range badRule() {
		all = append(all, []impl.Rule{bad}, []impl.Rule{fine, bad}, []impl.Rule{bad, fine})
	}
	return all
}

// goodFacts has facts of all sizes.
func goodFacts() [][]int64 {
	all := [][]int64{nil, {1}, {-1}, {16}, {-16}, {1, 3}, {1, -2, 3}, {-1, 2}}
	var both []int64
	for atom := int64(1); atom <= impl.MaxAtoms; atom++ {
		both = append(both, atom-2*atom*(atom%2))
	}
	all = append(all, both)
	g := lcg(32)
	for range 20 {
		all = append(all, g.words(4, 4), g.words(6, 4), g.words(impl.MaxAtoms, impl.MaxAtoms))
	}
	return all
}

func badFacts() [][]int64 {
	long := make([]int64, impl.MaxAtoms+1)
	for i := range long {
		long[i] = int64(i) + 1
	}
	return append(badWords(), long)
}

// someOf returns whether some item of a list is as told.
func someOf[T any](list []T, is func(T) bool) bool { return slices.ContainsFunc(list, is) }

// eachOf returns whether each item of a list is as told.
func eachOf[T any](list []T, is func(T) bool) bool {
	return !slices.ContainsFunc(list, func(x T) bool { return !is(x) })
}

// slowInquiry finds answers by the words of the document, one at a time.
type slowInquiry struct {
	active            []impl.Rule
	facts             []int64
	proved, disproved map[int64]bool
}

func slowInquire(list []impl.Rule, facts []int64, day int64) slowInquiry {
	q := slowInquiry{facts: facts, proved: map[int64]bool{}, disproved: map[int64]bool{}}
	for _, r := range list {
		if day >= r.From && day <= r.To {
			q.active = append(q.active, r)
		}
	}
	for q.oneMore() {
	}
	return q
}

// oneMore adds one word to what is proved or disproved, if there is one. It
// begins with the last word, to take other steps than the package.
func (q slowInquiry) oneMore() bool {
	for _, word := range slices.Backward(words()) {
		if !q.disproved[word] && q.isDisproved(word) {
			q.disproved[word] = true
			return true
		}
		if !q.proved[word] && q.isProved(word) {
			q.proved[word] = true
			return true
		}
	}
	return false
}

func (q slowInquiry) isFact(word int64) bool { return slices.Contains(q.facts, word) }

func (q slowInquiry) rulesFor(word int64) []impl.Rule {
	var rules []impl.Rule
	for _, r := range q.active {
		if r.Head == word {
			rules = append(rules, r)
		}
	}
	return rules
}

func (q slowInquiry) allProved(r impl.Rule) bool {
	return eachOf(r.Ifs, func(word int64) bool { return q.proved[word] })
}

func (q slowInquiry) someDisproved(r impl.Rule) bool {
	return someOf(r.Ifs, func(word int64) bool { return q.disproved[word] })
}

func (q slowInquiry) isProved(word int64) bool {
	if q.isFact(word) {
		return true
	}
	own, other := q.rulesFor(word), q.rulesFor(-word)
	return !q.isFact(-word) && someOf(own, q.allProved) && eachOf(other, func(s impl.Rule) bool {
		return q.someDisproved(s) || someOf(own, func(r impl.Rule) bool { return q.allProved(r) && r.Rank > s.Rank })
	})
}

func (q slowInquiry) isDisproved(word int64) bool {
	if q.isFact(word) {
		return false
	}
	own, other := q.rulesFor(word), q.rulesFor(-word)
	return q.isFact(-word) || eachOf(own, func(r impl.Rule) bool {
		return q.someDisproved(r) || someOf(other, func(s impl.Rule) bool {
			return q.allProved(s) && eachOf(own, func(r impl.Rule) bool { return q.someDisproved(r) || r.Rank <= s.Rank })
		})
	})
}

// slowProof takes rules in rounds, and sorts those that are needed by rounds.
func slowProof(list []impl.Rule, facts []int64, day, x int64) ([]int64, bool) {
	q := slowInquire(list, facts, day)
	if !q.proved[x] {
		return nil, false
	}
	round, ground := map[int]int{}, map[int64]int{}
	for now, more := 1, true; more; now++ {
		more = false
		for i, r := range list {
			early := func(word int64) bool {
				return q.isFact(word) || someOf(slices.Collect(keysOf(round)), func(k int) bool { return round[k] < now && list[k].Head == word })
			}
			if round[i] == 0 && day >= r.From && day <= r.To && q.proved[r.Head] && !q.isFact(r.Head) && eachOf(r.Ifs, early) {
				round[i], more = now, true
				if _, ok := ground[r.Head]; !ok {
					ground[r.Head] = i
				}
			}
		}
	}
	needed := map[int]bool{}
	var need func(word int64)
	need = func(word int64) {
		if i, ok := ground[word]; ok && !needed[i] {
			needed[i] = true
			for _, other := range list[i].Ifs {
				need(other)
			}
		}
	}
	need(x)
	indices := slices.SortedFunc(keysOf(needed), func(a, b int) int { return 1000*(round[a]-round[b]) + a - b })
	var proof []int64
	for _, i := range indices {
		proof = append(proof, int64(i))
	}
	return proof, true
}

func keysOf[V any](m map[int]V) func(yield func(int) bool) {
	return func(yield func(int) bool) {
		for i := range m {
			if !yield(i) {
				return
			}
		}
	}
}

// slowIsProof looks at each rule and each If of a proof by itself.
func slowIsProof(list []impl.Rule, facts []int64, day int64, proof []int64, x int64) bool {
	if len(proof) == 0 {
		return slices.Contains(facts, x)
	}
	q := slowInquire(list, facts, day)
	for place, i := range proof {
		r := list[i]
		shown := func(word int64) bool {
			return q.isFact(word) || someOf(proof[:place], func(k int64) bool { return list[k].Head == word })
		}
		if day < r.From || day > r.To || !q.proved[r.Head] || !eachOf(r.Ifs, shown) {
			return false
		}
	}
	return list[proof[len(proof)-1]].Head == x
}

// slowRead returns the rule of a text, which is looked at as a whole.
func slowRead(s string) (impl.Rule, bool) {
	const number, word = `(0|[1-9][0-9]{0,5})`, `-?[1-9][0-9]?`
	form := regexp.MustCompile(`\A` + number + `-` + number + ` r` + number + `: ((?:` + word + `(?: & ` + word + `)* )?)=> (` + word + `)\z`)
	parts := form.FindStringSubmatch(s)
	if parts == nil {
		return impl.Rule{}, false
	}
	integer := func(s string) int64 { n, _ := strconv.Atoi(s); return int64(n) }
	r := ruleOf(integer(parts[5]), integer(parts[1]), integer(parts[2]), integer(parts[3]))
	last := int64(0)
	for _, word := range strings.Fields(strings.ReplaceAll(parts[4], "&", " ")) {
		n := integer(word)
		if max(n, -n) <= last || max(n, -n) > 16 {
			return impl.Rule{}, false
		}
		last = max(n, -n)
		r.Ifs = append(r.Ifs, n)
	}
	if max(r.Head, -r.Head) > 16 || len(r.Ifs) > 6 || r.From > r.To || r.To > 100000 || r.Rank > 100 {
		return impl.Rule{}, false
	}
	return r, true
}
