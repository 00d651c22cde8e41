package tests

import (
	"fmt"
	"slices"
	"testing"

	"loop.example/g01393/impl"
)

// answersAre checks AnswersOf and OpenOf on day 5. All words that are neither
// proved nor open are disproved.
func answersAre(t *testing.T, list []impl.Rule, facts, proved, open []int64) {
	t.Helper()
	var disproved []int64
	for _, word := range words() {
		if !slices.Contains(proved, word) && !slices.Contains(open, word) {
			disproved = append(disproved, word)
		}
	}
	what := fmt.Sprintf("(%v, %v)", list, facts)
	yes, no, ok := impl.AnswersOf(list, facts, 5)
	isList(t, "AnswersOf"+what, yes, ok, proved...)
	isList(t, "disproved by AnswersOf"+what, no, ok, disproved...)
	others, ok := impl.OpenOf(list, facts, 5)
	isList(t, "OpenOf"+what, others, ok, open...)
}

func TestAnswersOf(t *testing.T) {
	all := goodFacts()[7]
	for _, c := range []struct {
		list                []impl.Rule
		facts, proved, open []int64
	}{
		{nil, nil, nil, nil},
		{nil, all, all, nil},
		{[]impl.Rule{always(2, 1, 1), always(-2, 2, 3)}, []int64{1, 3}, []int64{1, -2, 3}, nil},
		{[]impl.Rule{always(2, 1, 1), always(-2, 2, 3)}, []int64{1}, []int64{1, 2}, nil},
		{[]impl.Rule{always(2, 1, 1), always(-2, 2, 3)}, []int64{3}, []int64{-2, 3}, nil},
		// A rule without Ifs, and Ifs all of which are needed.
		{[]impl.Rule{always(-7, 0)}, nil, []int64{-7}, nil},
		{[]impl.Rule{always(7, 0, 1, 2, 3, 4, 5, 6)}, []int64{1, 2, 3, 4, 5, 6}, []int64{1, 2, 3, 4, 5, 6, 7}, nil},
		{[]impl.Rule{always(7, 0, 1, 2, 3, 4, 5, 6)}, []int64{1, 2, 3, 4, 5}, []int64{1, 2, 3, 4, 5}, nil},
		{[]impl.Rule{always(7, 0, 1, 2, 3, 4, 5, -6)}, []int64{1, 2, 3, 4, 5, 6}, []int64{1, 2, 3, 4, 5, 6}, nil},
		{[]impl.Rule{always(7, 0, -6)}, []int64{6}, []int64{6}, nil},
		{[]impl.Rule{always(7, 0, -6)}, nil, nil, nil}, // what is not told is not its opposite
		// Heads that are facts, or opposites of facts.
		{[]impl.Rule{always(-2, 100)}, []int64{2}, []int64{2}, nil},
		{[]impl.Rule{always(2, 100)}, []int64{-2}, []int64{-2}, nil},
		{[]impl.Rule{always(2, 0, 1)}, []int64{2}, []int64{2}, nil},
		{[]impl.Rule{always(2, 0, 2), always(-2, 0)}, []int64{2}, []int64{2}, nil},
		{[]impl.Rule{always(-2, 100), always(3, 0, -2)}, []int64{2}, []int64{2}, nil},
	} {
		answersAre(t, c.list, c.facts, c.proved, c.open)
	}
}

func TestAnswersOfRanks(t *testing.T) {
	for _, c := range []struct {
		list                []impl.Rule
		facts, proved, open []int64
	}{
		// Equal ranks, and ranks one apart.
		{[]impl.Rule{always(1, 3), always(-1, 3)}, nil, nil, nil},
		{[]impl.Rule{always(1, 0), always(-1, 0)}, nil, nil, nil},
		{[]impl.Rule{always(1, 4), always(-1, 3)}, nil, []int64{1}, nil},
		{[]impl.Rule{always(1, 3), always(-1, 4)}, nil, []int64{-1}, nil},
		{[]impl.Rule{always(1, 100), always(-1, 99)}, nil, []int64{1}, nil},
		{[]impl.Rule{always(-1, 0), always(1, 1)}, nil, []int64{1}, nil},
		// Each rule for the opposite is outranked by some rule, not all by each one.
		{[]impl.Rule{always(1, 1), always(1, 5), always(-1, 3), always(-1, 4)}, nil, []int64{1}, nil},
		{[]impl.Rule{always(1, 1), always(1, 5), always(-1, 3), always(-1, 5)}, nil, nil, nil},
		{[]impl.Rule{always(1, 1), always(1, 5, 2), always(-1, 3)}, nil, []int64{-1}, nil},
		{[]impl.Rule{always(1, 1), always(1, 5, 2), always(-1, 3)}, []int64{2}, []int64{1, 2}, nil},
		// A rule that can't be used stands in nobody's way.
		{[]impl.Rule{always(1, 1), always(-1, 9, 2)}, nil, []int64{1}, nil},
		{[]impl.Rule{always(1, 1), always(-1, 9, 2)}, []int64{-2}, []int64{1, -2}, nil},
		{[]impl.Rule{always(1, 1), always(-1, 9, 2)}, []int64{2}, []int64{-1, 2}, nil},
		// Words of equal rank fall both, and what needs them with them.
		{[]impl.Rule{always(1, 0), always(-1, 0), always(2, 5, 1), always(-2, 0)}, nil, []int64{-2}, nil},
		{[]impl.Rule{always(1, 0), always(-1, 0), always(2, 5, 1), always(2, 0), always(-2, 9, -1)}, nil, []int64{2}, nil},
		// Exceptions of exceptions: a bird flies, but not if young, but if thrown.
		{[]impl.Rule{always(2, 0, 1), always(-2, 1, 1, 3), always(2, 2, 3, 4)}, []int64{1}, []int64{1, 2}, nil},
		{[]impl.Rule{always(2, 0, 1), always(-2, 1, 1, 3), always(2, 2, 3, 4)}, []int64{1, 3}, []int64{1, -2, 3}, nil},
		{[]impl.Rule{always(2, 0, 1), always(-2, 1, 1, 3), always(2, 2, 3, 4)}, []int64{1, 3, 4}, []int64{1, 2, 3, 4}, nil},
	} {
		answersAre(t, c.list, c.facts, c.proved, c.open)
	}
}

// Words that need themselves, alone and in a ring, are open, if nothing else decides.
func TestAnswersOfRings(t *testing.T) {
	for _, c := range []struct {
		list                []impl.Rule
		facts, proved, open []int64
	}{
		{[]impl.Rule{always(1, 0, 1)}, nil, nil, []int64{1}},
		{[]impl.Rule{always(-1, 0, -1)}, nil, nil, []int64{-1}},
		{[]impl.Rule{always(1, 0, 1), always(-1, 0, -1)}, nil, nil, []int64{1, -1}},
		{[]impl.Rule{always(1, 0, 1), always(1, 0, 2)}, nil, nil, []int64{1}},
		{[]impl.Rule{always(1, 0, 1), always(1, 0, 2)}, []int64{2}, []int64{1, 2}, nil},
		{[]impl.Rule{always(1, 0, 1, 2)}, nil, nil, nil},
		{[]impl.Rule{always(1, 0, 1)}, []int64{1}, []int64{1}, nil},
		{[]impl.Rule{always(1, 0, 1)}, []int64{-1}, []int64{-1}, nil},
		{[]impl.Rule{always(1, 0, 2), always(2, 0, 1)}, nil, nil, []int64{1, 2}},
		{[]impl.Rule{always(1, 0, 2), always(2, 0, 3), always(3, 0, 1)}, nil, nil, []int64{1, 2, 3}},
		{[]impl.Rule{always(1, 0, 2), always(2, 0, 3), always(3, 0, 1), always(4, 0, 3), always(-4, 0)}, nil, nil, []int64{1, 2, 3, -4}},
		{[]impl.Rule{always(1, 0, 2), always(2, 0, 3), always(3, 0, 1)}, []int64{2}, []int64{1, 2, 3}, nil},
		{[]impl.Rule{always(1, 0, 2), always(2, 0, 3), always(3, 0, 1)}, []int64{-2}, []int64{-2}, nil},
		// A word that needs its opposite, for which there is no rule, or one.
		{[]impl.Rule{always(1, 0, -1)}, nil, nil, nil},
		{[]impl.Rule{always(1, 0, -1), always(-1, 0)}, nil, nil, []int64{-1}},
		{[]impl.Rule{always(1, 1, -1), always(-1, 0)}, nil, nil, []int64{1, -1}},
		{[]impl.Rule{always(1, 0, -1), always(-1, 1)}, nil, []int64{-1}, nil},
		// An open word stands in the way of its opposite only if its rank is greater.
		{[]impl.Rule{always(2, 5, 1), always(-2, 6, -2)}, []int64{1}, []int64{1}, []int64{2, -2}},
		{[]impl.Rule{always(2, 5, 1), always(-2, 5, -2)}, []int64{1}, []int64{1, 2}, nil},
		{[]impl.Rule{always(2, 5, 1), always(-2, 4, -2)}, []int64{1}, []int64{1, 2}, nil},
		{[]impl.Rule{always(2, 5, 1), always(-2, 5, 3), always(3, 0, 3)}, []int64{1}, []int64{1}, []int64{2, 3}},
		{[]impl.Rule{always(2, 5, 1), always(-2, 4, 3), always(3, 0, 3)}, []int64{1}, []int64{1, 2}, []int64{3}},
	} {
		answersAre(t, c.list, c.facts, c.proved, c.open)
	}
}

// As many steps as there are atoms are taken, whatever the order of the rules is.
func TestAnswersOfLongChains(t *testing.T) {
	var up, down []impl.Rule
	proved := []int64{1}
	for atom := int64(2); atom <= impl.MaxAtoms; atom++ {
		proved = append(proved, atom)
		up = append(up, always(atom, 0, atom-1))
		down = append([]impl.Rule{always(-atom, 0, 1-atom)}, down...)
	}
	answersAre(t, up, []int64{1}, proved, nil)
	slices.Reverse(up)
	answersAre(t, up, []int64{1}, proved, nil)
	answersAre(t, up, []int64{-1}, []int64{-1}, nil)
	var opposite []int64
	for _, atom := range proved {
		opposite = append(opposite, -atom)
	}
	answersAre(t, down, []int64{-1}, opposite, nil)
}

func TestAnswersOfDays(t *testing.T) {
	const most = impl.MaxDay
	list := []impl.Rule{ruleOf(1, 3, 5, 0), ruleOf(-1, 5, 8, 1), ruleOf(2, 0, 0, 0), ruleOf(3, most, most, 0)}
	for _, c := range []struct {
		day  int64
		want []int64
	}{{0, []int64{2}}, {1, nil}, {2, nil}, {3, []int64{1}}, {4, []int64{1}}, {5, []int64{-1}}, {8, []int64{-1}}, {9, nil}, {most - 1, nil}, {most, []int64{3}}} {
		yes, no, ok := impl.AnswersOf(list, nil, c.day)
		isList(t, fmt.Sprintf("AnswersOf on day %d", c.day), yes, ok, c.want...)
		isInt(t, fmt.Sprintf("how many are disproved on day %d", c.day), int64(len(yes)+len(no)), 32)
	}
}

// inOrder returns all words of a set in the order of their atoms.
func inOrder(set map[int64]bool) []int64 {
	var list []int64
	for _, word := range words() {
		if set[word] {
			list = append(list, word)
		}
	}
	return list
}

func TestAnswersOfStepByStep(t *testing.T) {
	facts := goodFacts()
	for i, list := range goodRules() {
		for k := range 6 {
			some, day := facts[(7*i+k)%len(facts)], int64(i+3*k)%12
			q := slowInquire(list, some, day)
			what := fmt.Sprintf("(%v, %v, %d)", list, some, day)
			yes, no, ok := impl.AnswersOf(list, some, day)
			isList(t, "AnswersOf"+what, yes, ok, inOrder(q.proved)...)
			isList(t, "disproved by AnswersOf"+what, no, ok, inOrder(q.disproved)...)
			open := map[int64]bool{}
			for _, word := range words() {
				open[word] = !q.proved[word] && !q.disproved[word]
			}
			others, ok := impl.OpenOf(list, some, day)
			isList(t, "OpenOf"+what, others, ok, inOrder(open)...)
		}
	}
}

func TestProofOf(t *testing.T) {
	list := []impl.Rule{ruleOf(2, 0, 9, 1, 1), ruleOf(-2, 0, 5, 2, 3), ruleOf(4, 0, 9, 0, 2)}
	proof, ok := impl.ProofOf(list, []int64{1}, 7, 4)
	isList(t, "ProofOf of a chain", proof, ok, 0, 2)
	proof, ok = impl.ProofOf(list, []int64{2}, 7, 4)
	isList(t, "ProofOf from a fact", proof, ok, 2)
	for _, c := range []struct {
		list  []impl.Rule
		facts []int64
		x     int64
		want  []int64
	}{
		// A fact, with and without rules for it.
		{nil, []int64{-3}, -3, nil},
		{[]impl.Rule{always(3, 0)}, []int64{3}, 3, nil},
		{[]impl.Rule{always(3, 0), always(4, 0, 3)}, []int64{3}, 4, []int64{1}},
		// Grounds of different rounds: the first round decides, and then the index.
		{[]impl.Rule{always(1, 0, 2), always(1, 0), always(2, 0)}, nil, 1, []int64{1}},
		{[]impl.Rule{always(1, 0), always(1, 9)}, nil, 1, []int64{0}},
		{[]impl.Rule{always(1, 0, 2), always(1, 0, 3), always(1, 0, 4)}, []int64{3, 4}, 1, []int64{1}},
		// Heads of the same round are not there yet.
		{[]impl.Rule{always(2, 0), always(1, 0, 2), always(1, 0)}, nil, 1, []int64{2}},
		{[]impl.Rule{always(2, 0), always(1, 0, 2), always(1, 0, 3), always(3, 0)}, nil, 1, []int64{0, 1}},
		// The order is that in which rules are taken.
		{[]impl.Rule{always(4, 0, 3), always(3, 0, 2), always(2, 0, 1)}, []int64{1}, 4, []int64{2, 1, 0}},
		{[]impl.Rule{always(4, 0, 2, 3), always(3, 0, 5), always(2, 0), always(5, 0)}, nil, 4, []int64{2, 3, 1, 0}},
		// Each one once, and only those that are needed.
		{[]impl.Rule{always(4, 0, 2, 3), always(3, 0, 1), always(2, 0, 1), always(1, 0), always(5, 0)}, nil, 4, []int64{3, 1, 2, 0}},
		// The ground need not be the rule that outranks others.
		{[]impl.Rule{always(1, 0), always(1, 5, 2), always(-1, 3), always(2, 0)}, nil, 1, []int64{0}},
		{[]impl.Rule{always(1, 5, 2), always(-1, 3), always(1, 0), always(2, 0)}, nil, 1, []int64{2}},
		// A rule with an If that is not proved is none, and what needs itself has another ground.
		{[]impl.Rule{always(1, 0, 3), always(1, 0, 2), always(2, 0)}, nil, 1, []int64{2, 1}},
		{[]impl.Rule{always(1, 0, 1), always(1, 0, 2)}, []int64{2}, 1, []int64{1}},
		{[]impl.Rule{always(1, 0, 2), always(2, 0, 1), always(2, 0)}, nil, 1, []int64{2, 0}},
		// Rules that are not active.
		{[]impl.Rule{ruleOf(1, 0, 4, 0), ruleOf(1, 6, 9, 0), ruleOf(1, 5, 5, 0)}, nil, 1, []int64{2}},
	} {
		got, ok := impl.ProofOf(c.list, c.facts, 5, c.x)
		isList(t, fmt.Sprintf("ProofOf(%v, %v, 5, %d)", c.list, c.facts, c.x), got, ok, c.want...)
	}
}

func TestProofOfNone(t *testing.T) {
	for _, c := range []struct {
		list  []impl.Rule
		facts []int64
		x     int64
	}{
		{nil, nil, 1},
		{nil, []int64{1}, -1},
		{[]impl.Rule{always(1, 0, 1)}, nil, 1},
		{[]impl.Rule{always(1, 3), always(-1, 3)}, nil, 1},
		{[]impl.Rule{always(1, 3), always(-1, 3)}, nil, -1},
		{[]impl.Rule{always(1, 3), always(-1, 4)}, nil, 1},
		{[]impl.Rule{always(1, 3)}, []int64{-1}, 1},
		{[]impl.Rule{ruleOf(1, 6, 9, 0), ruleOf(1, 0, 4, 0)}, nil, 1},
	} {
		isNone(t, fmt.Sprintf("ProofOf(%v, %v, 5, %d)", c.list, c.facts, c.x), results(impl.ProofOf(c.list, c.facts, 5, c.x)))
	}
}

func TestIsProof(t *testing.T) {
	list := []impl.Rule{
		always(2, 1, 1), ruleOf(-2, 0, 4, 2, 1), always(4, 0, 2), always(5, 0, 2, 4), // 0 to 3
		always(4, 0, 1), ruleOf(4, 0, 4, 0, 1), ruleOf(5, 6, 9, 0), always(6, 3), // 4 to 7
		always(-6, 3), always(1, 0), always(7, 0, 7), always(-1, 0), always(4, 0, 8), // 8 to 12
	}
	for _, c := range []struct {
		proof []int64
		x     int64
		want  bool
	}{
		// The empty proof of a fact, and of others.
		{nil, 1, true}, {nil, -1, false}, {nil, 2, false}, {nil, 9, false},
		{[]int64{0}, 2, true},
		{[]int64{9}, 1, true}, // a fact may have a rule, too
		{[]int64{0, 2}, 4, true}, {[]int64{4}, 4, true}, {[]int64{0, 2, 3}, 5, true}, {[]int64{0, 4, 3}, 5, true},
		{[]int64{4, 0, 3}, 5, true}, {[]int64{0, 0, 2, 4, 0, 2}, 4, true},
		{slices.Repeat([]int64{0}, 100), 2, true},
		// The wrong last rule.
		{[]int64{0}, 4, false}, {[]int64{0, 2}, 2, false}, {[]int64{0}, -2, false}, {[]int64{0, 2, 3}, 4, false}, {[]int64{0}, 1, false},
		// Ifs that come too late, or not at all.
		{[]int64{2}, 4, false}, {[]int64{2, 0, 2}, 4, false}, {[]int64{0, 3}, 5, false}, {[]int64{2, 0}, 2, false},
		{[]int64{12}, 4, false}, {[]int64{10}, 7, false}, {[]int64{10, 10}, 7, false},
		// Rules that are not active, the last one or another.
		{[]int64{5}, 4, false}, {[]int64{5, 0}, 2, false}, {[]int64{6}, 5, false}, {[]int64{1}, -2, false}, {[]int64{1, 0}, 2, false},
		// Heads that are not proved.
		{[]int64{7}, 6, false}, {[]int64{8}, -6, false}, {[]int64{7, 0}, 2, false}, {[]int64{11}, -1, false}, {[]int64{11, 0}, 2, false},
	} {
		got, ok := impl.IsProof(list, []int64{1}, 5, c.proof, c.x)
		if got != c.want || !ok {
			t.Errorf("IsProof(%v, %d): got %v %v, want %v", c.proof, c.x, got, ok, c.want)
		}
	}
}

func TestProofsByRounds(t *testing.T) {
	facts := goodFacts()
	g := lcg(33)
	for i, list := range goodRules() {
		for k := range 3 {
			some, day := facts[(5*i+k)%len(facts)], int64(i+5*k)%12
			for _, x := range []int64{1, -1, 2, -2, 3, -3, g.word(16)} {
				what := fmt.Sprintf("(%v, %v, %d, %d)", list, some, day, x)
				want, proved := slowProof(list, some, day, x)
				got, ok := impl.ProofOf(list, some, day, x)
				if !slices.Equal(got, want) || ok != proved {
					t.Errorf("ProofOf%s: got %v %v, want %v %v", what, got, ok, want, proved)
				}
				for _, proof := range g.proofs(got, len(list)) {
					is, ok := impl.IsProof(list, some, day, proof, x)
					if is != slowIsProof(list, some, day, proof, x) || !ok {
						t.Errorf("IsProof%s of %v: got %v %v", what, proof, is, ok)
					}
				}
			}
		}
	}
}

// proofs has a proof, ones that differ from it in one place, and any others.
func (g *lcg) proofs(proof []int64, count int) [][]int64 {
	all := [][]int64{proof, nil}
	if count == 0 {
		return all
	}
	for i := range proof {
		other := slices.Clone(proof)
		other[i] = g.below(int64(count) - 1)
		turned := slices.Clone(proof)
		turned[i], turned[0] = turned[0], turned[i]
		all = append(all, slices.Delete(slices.Clone(proof), i, i+1), other, turned)
	}
	return append(all, []int64{g.below(int64(count) - 1)}, g.list(5, int64(count)-1), append(g.list(9, int64(count)-1), proof...))
}

// Any number of workers makes the same.
func TestAnswersShared(t *testing.T) {
	list := []impl.Rule{ruleOf(2, 0, 9, 1, 1), ruleOf(-2, 0, 5, 2, 3), ruleOf(4, 0, 9, 0, 2)}
	facts := goodFacts()
	lists := goodRules()
	for workers := int64(1); workers <= impl.MaxWorkers; workers++ {
		what := fmt.Sprintf("AnswersShared by %d workers", workers)
		got, ok := impl.AnswersShared(list, [][]int64{{1}, {}, {1, 3}}, 7, workers)
		isList(t, what, got, ok, 3, 0, 4)
		got, ok = impl.AnswersShared(list, [][]int64{{1, 3}, {1}, nil}, 5, workers)
		isList(t, what, got, ok, 3, 3, 0)
		got, ok = impl.AnswersShared(list, nil, 7, workers)
		isList(t, what+" of no lists", got, ok)
		got, ok = impl.AnswersShared(nil, slices.Repeat([][]int64{{-1, 2}}, 16), 0, workers)
		isList(t, what+" without rules", got, ok, slices.Repeat([]int64{2}, 16)...)
		for i := range 40 {
			list, many := lists[(7*i)%len(lists)], facts[i:i+i%17]
			var want []int64
			for _, some := range many {
				count := int64(0)
				for _, word := range words() {
					if slowInquire(list, some, 3).proved[word] {
						count++
					}
				}
				want = append(want, count)
			}
			got, ok := impl.AnswersShared(list, many, 3, workers)
			isList(t, fmt.Sprintf("%s of %v on %v", what, list, many), got, ok, want...)
		}
	}
}

func TestDaysProved(t *testing.T) {
	const most = impl.MaxDay
	list := []impl.Rule{ruleOf(2, 0, 9, 1, 1), ruleOf(-2, 0, 5, 2, 3), ruleOf(4, 0, 9, 0, 2)}
	for _, c := range []struct{ x, from, to, want int64 }{
		{2, 0, 20, 4}, {2, 6, 9, 4}, {2, 7, 8, 2}, {2, 5, 6, 1}, {2, 9, 10, 1}, {2, 9, 9, 1}, {2, 10, 10, 0}, {2, 5, 5, 0}, {2, 0, 0, 0},
		{-2, 0, 20, 6}, {-2, 5, 5, 1}, {-2, 0, 0, 1}, {4, 0, most, 4}, {1, 0, most, most + 1}, {1, most, most, 1}, {-1, 0, most, 0}, {1, 4, 5, 2},
	} {
		got, ok := impl.DaysProved(list, []int64{1, 3}, c.x, c.from, c.to)
		isTold(t, fmt.Sprintf("DaysProved(%d, %d, %d)", c.x, c.from, c.to), got, ok, c.want)
	}
	for _, c := range []struct {
		list           []impl.Rule
		from, to, want int64
	}{
		{[]impl.Rule{ruleOf(1, 0, most, 0)}, 0, most, most + 1},
		{[]impl.Rule{ruleOf(1, 7, most, 0)}, 0, most, most - 6},
		{[]impl.Rule{ruleOf(1, 7, most, 0)}, 8, most, most - 7},
		{[]impl.Rule{ruleOf(1, most, most, 0)}, 0, most, 1},
		{[]impl.Rule{ruleOf(1, 0, most, 0), ruleOf(-1, 5, 5, 0)}, 0, most, most},
		{[]impl.Rule{ruleOf(1, 0, 4, 0), ruleOf(1, 5, 9, 0)}, 3, 7, 5},
		{nil, 0, most, 0},
	} {
		got, ok := impl.DaysProved(c.list, nil, 1, c.from, c.to)
		isTold(t, fmt.Sprintf("DaysProved(%v, %d, %d)", c.list, c.from, c.to), got, ok, c.want)
	}
	isNone(t, "DaysProved of a time that goes back", results(impl.DaysProved(list, nil, 1, 5, 4)))
}

func TestDaysProvedDayByDay(t *testing.T) {
	facts := goodFacts()
	g := lcg(34)
	for i, list := range goodRules() {
		some, x, from := facts[i%len(facts)], g.word(3), g.below(12)
		to := from + g.below(25)
		want := int64(0)
		for day := from; day <= to; day++ {
			if slowInquire(list, some, day).proved[x] {
				want++
			}
		}
		got, ok := impl.DaysProved(list, some, x, from, to)
		isTold(t, fmt.Sprintf("DaysProved(%v, %v, %d, %d, %d)", list, some, x, from, to), got, ok, want)
	}
}
