package tests

import (
	"fmt"
	"slices"
	"strings"
	"testing"

	"loop.example/g01393/impl"
)

// Promise 6: no word is proved with its opposite, words that are proved have
// proofs, and texts of rules are read back as they were written.

// hardRules has rules of equal ranks and of rings in which opposites meet.
func hardRules() [][]impl.Rule {
	all := goodRules()
	g := lcg(37)
	for range 1500 {
		atoms := g.one(2, 3, 4, 5)
		var list []impl.Rule
		for range 4 + g.below(impl.MaxRules-4) {
			list = append(list, always(g.word(atoms)*g.one(1, -1), g.below(g.one(0, 1, 3)), g.words(atoms, 2)...))
		}
		all = append(all, list)
	}
	return all
}

// Each word is proved, or disproved, or open, and never two of these, nor is
// it proved with its opposite.
func TestPromise6NoWordWithItsOpposite(t *testing.T) {
	facts := goodFacts()
	for i, list := range hardRules() {
		some := facts[i%len(facts)]
		what := fmt.Sprintf("(%v, %v)", list, some)
		yes, no, one := impl.AnswersOf(list, some, 5)
		open, two := impl.OpenOf(list, some, 5)
		isTrue(t, "answers"+what, one && two)
		for _, word := range yes {
			isFalse(t, fmt.Sprintf("%d is proved with its opposite%s", word, what), slices.Contains(yes, -word))
			isFalse(t, fmt.Sprintf("%d is proved and disproved%s", word, what), slices.Contains(no, word))
		}
		all := slices.Concat(yes, no, open)
		slices.Sort(all)
		sorted := words()
		slices.Sort(sorted)
		isList(t, "all words"+what, all, true, sorted...)
		for _, word := range some {
			isTrue(t, fmt.Sprintf("%d is proved as a fact%s", word, what), slices.Contains(yes, word) && slices.Contains(no, -word))
		}
	}
}

// Words that are proved have proofs, and others have none: no list of rules is
// a proof of them.
func TestPromise6ProvedWordsHaveProofs(t *testing.T) {
	facts := goodFacts()
	g := lcg(38)
	for i, list := range hardRules() {
		some := facts[i%len(facts)]
		yes, _, _ := impl.AnswersOf(list, some, 5)
		for _, x := range words() {
			what := fmt.Sprintf("(%v, %v, 5, %d)", list, some, x)
			proof, ok := impl.ProofOf(list, some, 5, x)
			if proved := slices.Contains(yes, x); ok != proved {
				t.Errorf("ProofOf%s: got %v %v, but proved is %v", what, proof, ok, proved)
			}
			if ok {
				isWholeProof(t, what, list, some, proof, x)
				continue
			}
			isNone(t, "ProofOf"+what, results(proof, ok))
			if i%5 > 0 || len(list) == 0 || max(x, -x) > 6 {
				continue // some are enough
			}
			for _, proof := range g.proofs(g.list(6, int64(len(list))-1), len(list)) {
				is, ok := impl.IsProof(list, some, 5, proof, x)
				isTrue(t, fmt.Sprintf("IsProof%s of %v is false", what, proof), !is && ok)
			}
		}
	}
}

// isWholeProof checks that a proof is one, and that no rule of it can be left
// out, nor be there twice.
func isWholeProof(t *testing.T, what string, list []impl.Rule, facts, proof []int64, x int64) {
	t.Helper()
	is, ok := impl.IsProof(list, facts, 5, proof, x)
	isTrue(t, fmt.Sprintf("IsProof%s of %v", what, proof), is && ok)
	isTrue(t, fmt.Sprintf("ProofOf%s is empty for facts alone: %v", what, proof), (len(proof) == 0) == slices.Contains(facts, x))
	sorted := slices.Compact(slices.Sorted(slices.Values(proof)))
	isInt(t, "how many rules are in the proof"+what, int64(len(sorted)), int64(len(proof)))
	for i := range proof {
		is, ok := impl.IsProof(list, facts, 5, slices.Delete(slices.Clone(proof), i, i+1), x)
		isFalse(t, fmt.Sprintf("IsProof%s of %v without the rule %d", what, proof, i), is || !ok)
	}
}

// Texts of rules are read back as they were written.
func TestPromise6TextsAreReadBack(t *testing.T) {
	for _, list := range hardRules() {
		for _, r := range list {
			text, one := impl.RuleText(r)
			back, two := impl.ReadRule(text)
			if !one || !two || !sameRule(r, back) {
				t.Errorf("%v is %q, which is %v: %v %v", r, text, back, one, two)
			}
			want, ok := slowRead(text)
			isTrue(t, fmt.Sprintf("the pattern fits %q", text), ok && sameRule(r, want))
		}
		text, one := impl.RulesText(list)
		back, two := impl.ReadRules(text)
		isTrue(t, fmt.Sprintf("ReadRules(%q)", text), one && two && impl.SameRules(list, back))
		isInt(t, fmt.Sprintf("line feeds of %q", text), int64(strings.Count(text, "\n")), int64(len(list)))
		if len(list) > 0 {
			isNone(t, "ReadRules without the last line feed", results(impl.ReadRules(text[:len(text)-1])))
		}
	}
}

// Rules that differ have texts that differ.
func TestPromise6TextsTellRulesApart(t *testing.T) {
	seen := map[string]impl.Rule{}
	for _, list := range goodRules() {
		for _, r := range list {
			text, _ := impl.RuleText(r)
			if other, ok := seen[text]; ok && !sameRule(r, other) {
				t.Errorf("%v and %v have the text %q", r, other, text)
			}
			seen[text] = r
		}
	}
	isTrue(t, "there are many texts", len(seen) > 500)
}
