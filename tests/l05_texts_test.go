package tests

import (
	"fmt"
	"slices"
	"strings"
	"testing"

	"loop.example/g01393/impl"
)

func TestAmendRule(t *testing.T) {
	const most = impl.MaxDay
	list := []impl.Rule{ruleOf(2, 0, 9, 1, 1), ruleOf(-2, 3, 5, 2, 3), ruleOf(4, 0, most, 0)}
	next := ruleOf(5, 0, 8, 7, -1, 6)
	for _, c := range []struct {
		i, day int64
		r      impl.Rule
		want   []impl.Rule
	}{
		// The second day of a rule, one in between, and the last one.
		{1, 4, next, []impl.Rule{list[0], ruleOf(-2, 3, 3, 2, 3), list[2], ruleOf(5, 4, 8, 7, -1, 6)}},
		{1, 5, next, []impl.Rule{list[0], ruleOf(-2, 3, 4, 2, 3), list[2], ruleOf(5, 5, 8, 7, -1, 6)}},
		{0, 1, next, []impl.Rule{ruleOf(2, 0, 0, 1, 1), list[1], list[2], ruleOf(5, 1, 8, 7, -1, 6)}},
		{0, 8, next, []impl.Rule{ruleOf(2, 0, 7, 1, 1), list[1], list[2], ruleOf(5, 8, 8, 7, -1, 6)}},
		{2, most, ruleOf(4, most, most, 0), []impl.Rule{list[0], list[1], ruleOf(4, 0, most-1, 0), ruleOf(4, most, most, 0)}},
		// Whatever From is.
		{0, 3, ruleOf(1, 5, 5, 0), []impl.Rule{ruleOf(2, 0, 2, 1, 1), list[1], list[2], ruleOf(1, 3, 5, 0)}},
		{0, 3, ruleOf(1, 9, 5, 0), []impl.Rule{ruleOf(2, 0, 2, 1, 1), list[1], list[2], ruleOf(1, 3, 5, 0)}},
		{0, 3, ruleOf(1, -7, 5, 0), []impl.Rule{ruleOf(2, 0, 2, 1, 1), list[1], list[2], ruleOf(1, 3, 5, 0)}},
		// Longer than the rule was.
		{0, 9, ruleOf(2, 0, most, 100), []impl.Rule{ruleOf(2, 0, 8, 1, 1), list[1], list[2], ruleOf(2, 9, most, 100)}},
	} {
		got, ok := impl.AmendRule(list, c.i, c.day, c.r)
		isRuleList(t, fmt.Sprintf("AmendRule(%d, %d, %v)", c.i, c.day, c.r), got, ok, c.want...)
	}
	for _, c := range []struct {
		i, day, to int64
	}{
		{1, 3, 8}, {1, 2, 8}, {1, 6, 8}, {0, 0, 8}, {0, 10, 20}, {1, 4, 3}, {0, 9, 8}, {2, 0, most}, {2, most, most - 1}, {2, most + 1, most + 1}, {2, 5, most + 1}, {3, 5, 8}, {-1, 5, 8},
	} {
		isNone(t, fmt.Sprintf("AmendRule(%d, %d) to %d", c.i, c.day, c.to), results(impl.AmendRule(list, c.i, c.day, ruleOf(5, 0, c.to, 0))))
	}
	isNone(t, "AmendRule of no rules", results(impl.AmendRule(nil, 0, 1, next)))
}

func TestAmendRuleWithoutRoom(t *testing.T) {
	full := slices.Repeat([]impl.Rule{ruleOf(3, 1, 8, 2, 4)}, impl.MaxRules)
	isNone(t, "AmendRule without room", results(impl.AmendRule(full, 0, 5, ruleOf(3, 1, 8, 2))))
	got, ok := impl.AmendRule(full[1:], impl.MaxRules-2, 5, ruleOf(3, 1, 8, 2))
	want := slices.Clone(full)
	want[impl.MaxRules-2] = ruleOf(3, 1, 4, 2, 4)
	want[impl.MaxRules-1] = ruleOf(3, 5, 8, 2)
	isRuleList(t, "AmendRule with room for one", got, ok, want...)
	repealed, ok := impl.RepealRule(full, 0, 5)
	want = slices.Clone(full)
	want[0] = ruleOf(3, 1, 4, 2, 4)
	isRuleList(t, "RepealRule of as many rules as there may be", repealed, ok, want...)
}

func TestRepealRule(t *testing.T) {
	const most = impl.MaxDay
	list := []impl.Rule{ruleOf(2, 0, 9, 1, 1), ruleOf(-2, 3, 5, 2, 3), ruleOf(4, 0, most, 0), ruleOf(4, 6, 6, 0)}
	for i, r := range list {
		for _, day := range []int64{-1, 0, 1, 2, 3, 4, 5, 6, 7, 8, 9, 10, 11, most - 1, most, most + 1} {
			what := fmt.Sprintf("RepealRule(%d, %d)", i, day)
			got, ok := impl.RepealRule(list, int64(i), day)
			if day <= r.From || day > r.To {
				isNone(t, what, results(got, ok))
				continue
			}
			want := cloned(list)
			want[i].To = day - 1
			isRuleList(t, what, got, ok, want...)
		}
	}
	isNone(t, "RepealRule of no rules", results(impl.RepealRule(nil, 0, 1)))
	isNone(t, "RepealRule of a rule that there is not", results(impl.RepealRule(list, 4, 5)))
	isNone(t, "RepealRule of a rule that there is not", results(impl.RepealRule(list, -1, 5)))
}

// On the days before an amendment, the old rule is there, and then the new one.
func TestAmendedDays(t *testing.T) {
	list := []impl.Rule{ruleOf(1, 2, 9, 0)}
	amended, _ := impl.AmendRule(list, 0, 6, ruleOf(-1, 0, 7, 0))
	repealed, _ := impl.RepealRule(list, 0, 6)
	for day := range int64(12) {
		yes, _, one := impl.AnswersOf(amended, nil, day)
		left, _, two := impl.AnswersOf(repealed, nil, day)
		var wantYes, wantLeft []int64
		if day >= 2 && day < 6 {
			wantYes, wantLeft = []int64{1}, []int64{1}
		} else if day == 6 || day == 7 {
			wantYes = []int64{-1}
		}
		isList(t, fmt.Sprintf("AnswersOf amended rules on day %d", day), yes, one, wantYes...)
		isList(t, fmt.Sprintf("AnswersOf repealed rules on day %d", day), left, two, wantLeft...)
	}
}

func TestRulesAt(t *testing.T) {
	const most = impl.MaxDay
	list := []impl.Rule{ruleOf(2, 0, 9, 1, 1), ruleOf(-2, 3, 5, 2, 3, -4), ruleOf(4, 0, most, 0)}
	for _, c := range []struct {
		day  int64
		want []impl.Rule
	}{
		{0, []impl.Rule{ruleOf(2, 0, 0, 1, 1), ruleOf(4, 0, 0, 0)}},
		{3, []impl.Rule{ruleOf(2, 3, 3, 1, 1), ruleOf(-2, 3, 3, 2, 3, -4), ruleOf(4, 3, 3, 0)}},
		{5, []impl.Rule{ruleOf(2, 5, 5, 1, 1), ruleOf(-2, 5, 5, 2, 3, -4), ruleOf(4, 5, 5, 0)}},
		{6, []impl.Rule{ruleOf(2, 6, 6, 1, 1), ruleOf(4, 6, 6, 0)}},
		{most, []impl.Rule{ruleOf(4, most, most, 0)}},
	} {
		got, ok := impl.RulesAt(list, c.day)
		isRuleList(t, fmt.Sprintf("RulesAt(%d)", c.day), got, ok, c.want...)
	}
	got, ok := impl.RulesAt(list[:2], most)
	isRuleList(t, "RulesAt of a day without rules", got, ok)
	for i, list := range goodRules() {
		day := int64(i) % 12
		got, ok := impl.RulesAt(list, day)
		var want []impl.Rule
		for _, r := range list {
			if r.From <= day && day <= r.To {
				want = append(want, ruleOf(r.Head, day, day, r.Rank, r.Ifs...))
			}
		}
		isRuleList(t, fmt.Sprintf("RulesAt of %v on day %d", list, day), got, ok, want...)
	}
}

func TestRuleText(t *testing.T) {
	for _, c := range []struct {
		r    impl.Rule
		want string
	}{
		{ruleOf(2, 0, 9, 1, 1), "0-9 r1: 1 => 2"},
		{ruleOf(1, 0, 0, 0), "0-0 r0: => 1"},
		{ruleOf(-16, 100000, 100000, 100), "100000-100000 r100: => -16"},
		{ruleOf(-5, 1, 2, 3, 1, -4), "1-2 r3: 1 & -4 => -5"},
		{ruleOf(16, 10, 20, 30, -1, 2, -3, 14, -15, 16), "10-20 r30: -1 & 2 & -3 & 14 & -15 & 16 => 16"},
	} {
		got, ok := impl.RuleText(c.r)
		if got != c.want || !ok {
			t.Errorf("RuleText(%v): got %q %v, want %q", c.r, got, ok, c.want)
		}
		r, ok := impl.ReadRule(c.want)
		isRuleList(t, fmt.Sprintf("ReadRule(%q)", c.want), []impl.Rule{r}, ok, c.r)
	}
}

// noRuleTexts has texts that are of no rule, each for one reason.
func noRuleTexts() []string {
	return []string{
		"", " ", "=>", "=> 1", "0-9", "0-9 r1:", "0-9 r1: ", "0-9 r1: 1", "0-9 r1: 1 ", "0-9 r1: 1 =>", "0-9 r1: 1 => ", "0-9 r1: => ",
		" 0-9 r1: 1 => 2", "0-9 r1: 1 => 2 ", "0-9 r1: 1 => 2\n", "\n0-9 r1: 1 => 2", "0-9 r1: 1 => 2\x00", "0-9 r1: 1 => 2 => 2",
		"0 - 9 r1: 1 => 2", "0-9 r 1: 1 => 2", "0-9r1: 1 => 2", "0-9  r1: 1 => 2", "0-9 r1:1 => 2", "0-9 r1:  1 => 2", "0-9 r1: 1  => 2", "0-9 r1: 1=> 2",
		"0-9 r1: 1 =>2", "0-9 r1: 1 =>  2", "0-9 r1:=> 2", "0-9 r1:  => 2", "0-9 R1: 1 => 2", "0-9 1: 1 => 2", "0-9 r1 1 => 2", "0-9 r1: 1 -> 2", "0-9 r1: 1 = > 2",
		"1-2 r3: 1 &-4 => -5", "1-2 r3: 1& -4 => -5", "1-2 r3: 1&-4 => -5", "1-2 r3: 1  & -4 => -5", "1-2 r3: 1 &  -4 => -5", "1-2 r3: 1 & => -5", "1-2 r3: & -4 => -5", "1-2 r3: 1 & & -4 => -5",
		"1-2 r3: 1 -4 => -5", "1-2 r3: 1, -4 => -5", "1-2 r3:  & 4 => -5", "1-2 r3: 1 &  => -5", "1-2 r3: 1 & -4 & => -5", "1-2 r3: 1 && -4 => -5", "1-2 r3: 1 and -4 => -5",
		// Numbers that are not decimal ones as they must be.
		"+0-9 r1: 1 => 2", "00-9 r1: 1 => 2", "-0-9 r1: 1 => 2", "0-09 r1: 1 => 2", "0-+9 r1: 1 => 2", "0-9 r01: 1 => 2", "0-9 r+1: 1 => 2", "0-9 r-0: 1 => 2", "0-9 r1: 01 => 2", "0-9 r1: +1 => 2", "0-9 r1: 1 => +2",
		"0-9 r1: 1 => 02", "0-9 r1: 1 => --2", "0-9 r1: 1 => - 2", "0-9 r1: 1 => 2.", "0x0-9 r1: 1 => 2", "0-9 r1: 1 => 2e0", "0-9 r1: 1 => \u0662", "-9 r1: 1 => 2", "0- r1: 1 => 2", "0-9 r: 1 => 2", "0-9 r1: - => 2", "0-9 r1: 1 => -",
		"99999999999999999999-9 r1: 1 => 2", "0-9 r1: 1 => 18446744073709551618", "0-9 r1: 18446744073709551617 => 2", "0-9 r18446744073709551617: 1 => 2",
		// Rules that are not valid.
		"-1-9 r1: 1 => 2", "10-9 r1: 1 => 2", "0--9 r1: 1 => 2", "0-100001 r1: 1 => 2", "100001-100001 r1: 1 => 2", "0-9 r-1: 1 => 2", "0-9 r101: 1 => 2", "0-9 r1: 1 => 0", "0-9 r1: 1 => -0", "0-9 r1: 1 => 17", "0-9 r1: 1 => -17",
		"0-9 r1: 0 => 2", "0-9 r1: 17 => 2", "0-9 r1: -17 => 2", "0-9 r1: 1 & 1 => 2", "0-9 r1: 1 & -1 => 2", "0-9 r1: 2 & 1 => 2", "0-9 r1: 1 & 2 & 3 & 4 & 5 & 6 & 7 => 2",
	}
}

func TestReadRuleOfNone(t *testing.T) {
	for _, s := range noRuleTexts() {
		isNone(t, fmt.Sprintf("ReadRule(%q)", s), results(impl.ReadRule(s)))
		_, ok := slowRead(s)
		isFalse(t, fmt.Sprintf("the pattern fits %q", s), ok)
	}
	long := strings.Repeat("1 & ", 100000)
	isNone(t, "ReadRule of a long text", results(impl.ReadRule("0-9 r1: "+long+"2 => 2")))
	isNone(t, "ReadRule of long numbers", results(impl.ReadRule(strings.Repeat("9", 100000)+"-9 r1: => 2")))
}

// Texts that differ from that of a rule by one character are read as what they
// tell, or not at all.
func TestReadRuleByOneCharacter(t *testing.T) {
	const characters = "0129-r: &=>+\n\x00a"
	read := 0
	for _, text := range []string{"0-9 r1: 1 => 2", "0-0 r0: => 1", "1-2 r3: 1 & -4 => -5", "10-100000 r100: -1 & 2 & -3 & 14 & -15 & 16 => -16", "99999-99999 r10: 10 & 11 => 12"} {
		var others []string
		for i := range len(text) + 1 {
			for _, c := range characters {
				others = append(others, text[:i]+string(c)+text[i:])
			}
			if i == len(text) {
				continue
			}
			others = append(others, text[:i]+text[i+1:])
			for _, c := range characters {
				others = append(others, text[:i]+string(c)+text[i+1:])
			}
			if i > 0 {
				others = append(others, text[:i-1]+text[i:i+1]+text[i-1:i]+text[i+1:])
			}
		}
		for _, s := range others {
			want, is := slowRead(s)
			got, ok := impl.ReadRule(s)
			if ok != is || !sameRule(got, want) {
				t.Errorf("ReadRule(%q): got %v %v, want %v %v", s, got, ok, want, is)
			}
			if ok {
				read++
			}
		}
	}
	isTrue(t, fmt.Sprintf("some of them are of other rules: %d", read), read > 100)
}

func TestRulesText(t *testing.T) {
	for _, c := range []struct {
		list []impl.Rule
		want string
	}{
		{nil, ""},
		{[]impl.Rule{ruleOf(1, 0, 0, 0)}, "0-0 r0: => 1\n"},
		{[]impl.Rule{ruleOf(2, 0, 9, 1, 1), ruleOf(-2, 0, 5, 2, 3, -4)}, "0-9 r1: 1 => 2\n0-5 r2: 3 & -4 => -2\n"},
		{slices.Repeat([]impl.Rule{ruleOf(1, 0, 0, 0)}, impl.MaxRules), strings.Repeat("0-0 r0: => 1\n", impl.MaxRules)},
	} {
		got, ok := impl.RulesText(c.list)
		if got != c.want || !ok {
			t.Errorf("RulesText(%v): got %q %v, want %q", c.list, got, ok, c.want)
		}
		list, ok := impl.ReadRules(c.want)
		isRuleList(t, fmt.Sprintf("ReadRules(%q)", c.want), list, ok, c.list...)
	}
}

func TestReadRulesOfNone(t *testing.T) {
	const line = "0-9 r1: 1 => 2\n"
	for _, s := range []string{
		"\n", " ", "0-9 r1: 1 => 2", line + "\n", "\n" + line, line + " ", line + "0-9 r1: 1 => 2", "0-9 r1: 1 => 2\r\n", line + "\n" + line,
		"0-9 r1: 1 => 2 \n", "0-9 r1: 1 => 2;" + line, "none", line + "none\n", strings.Repeat(line, impl.MaxRules+1), strings.Repeat(line, impl.MaxRules) + "\n",
		strings.Repeat(line, impl.MaxRules) + "0-9 r1: 1 => 2", strings.Repeat(line, 5000),
	} {
		isNone(t, fmt.Sprintf("ReadRules(%.60q)", s), results(impl.ReadRules(s)))
	}
	for _, s := range noRuleTexts() {
		isNone(t, fmt.Sprintf("ReadRules(%q)", line+s+"\n"), results(impl.ReadRules(line+s+"\n")))
		isNone(t, fmt.Sprintf("ReadRules(%q)", s+"\n"+line), results(impl.ReadRules(s+"\n"+line)))
	}
}
