package tests

import (
	"fmt"
	"slices"
	"strings"
	"testing"

	"loop.example/g01393/impl"
)

func TestValidSaved(t *testing.T) {
	for _, s := range goodSaved() {
		isTrue(t, fmt.Sprintf("ValidSaved(%v)", s), impl.ValidSaved(s))
	}
	for _, s := range badSaved() {
		isFalse(t, fmt.Sprintf("ValidSaved(%v)", s), impl.ValidSaved(s))
	}
}

func TestSameSaved(t *testing.T) {
	base := savedOf("a", []impl.Rule{ruleOf(2, 0, 9, 1, 1)}, 7, 8)
	for _, other := range []impl.Saved{
		savedOf("b", base.Rules, 7, 8),
		savedOf("", base.Rules, 7, 8),
		savedOf("aa", base.Rules, 7, 8),
		savedOf("a", nil, 7, 8),
		savedOf("a", []impl.Rule{ruleOf(2, 0, 9, 1, -1)}, 7, 8),
		savedOf("a", []impl.Rule{ruleOf(2, 0, 8, 1, 1)}, 7, 8),
		savedOf("a", slices.Repeat(base.Rules, 2), 7, 8),
		savedOf("a", base.Rules, 8, 7),
		savedOf("a", base.Rules, 7),
		savedOf("a", base.Rules, 7, 8, 9),
		savedOf("a", base.Rules),
		{},
	} {
		what := fmt.Sprintf("SameSaved of %v", other)
		isFalse(t, what, impl.SameSaved([]impl.Saved{base}, []impl.Saved{other}))
		isFalse(t, what, impl.SameSaved([]impl.Saved{other}, []impl.Saved{base}))
		isFalse(t, what, impl.SameSaved([]impl.Saved{base, other}, []impl.Saved{other, base}))
		isFalse(t, what, impl.SameSaved([]impl.Saved{base, base}, []impl.Saved{base, other}))
		isFalse(t, what, impl.SameSaved([]impl.Saved{base, other}, []impl.Saved{base}))
		isTrue(t, what, impl.SameSaved([]impl.Saved{base, other}, []impl.Saved{base, other}))
	}
	all := append(goodSaved(), badSaved()...) // also what is not valid, and more than can be stored
	isTrue(t, "SameSaved of all", impl.SameSaved(all, slices.Clone(all)))
	isFalse(t, "SameSaved of all but one", impl.SameSaved(all, all[1:]))
	isTrue(t, "SameSaved of none", impl.SameSaved(nil, []impl.Saved{}))
	empty := impl.Saved{Rules: []impl.Rule{{Ifs: []int64{}}}, Incomes: []int64{}}
	isTrue(t, "SameSaved of empty lists", impl.SameSaved([]impl.Saved{{Rules: []impl.Rule{{}}}}, []impl.Saved{empty}))
}

func TestStoreSaved(t *testing.T) {
	check := slowCheck("DUE1\x01a\x0d\x000-0 r0: => 1\n\x01\x07\x00\x00\x00")
	for _, c := range []struct {
		s    impl.Saved
		want string
	}{
		{savedOf("a", []impl.Rule{ruleOf(1, 0, 0, 0)}, 7), "DUE1\x01a\x0d\x000-0 r0: => 1\n\x01\x07\x00\x00\x00" + check},
		{savedOf("z", nil, 0), "DUE1\x01z\x00\x00\x01\x00\x00\x00\x00\x14\x1a"},
		{savedOf("abc", nil, 1000000000, 258), "DUE1\x03abc\x00\x00\x02\x00\xca\x9a\x3b\x02\x01\x00\x00" + slowCheck("DUE1\x03abc\x00\x00\x02\x00\xca\x9a\x3b\x02\x01\x00\x00")},
	} {
		got, ok := impl.StoreSaved(c.s)
		if got != c.want || !ok {
			t.Errorf("StoreSaved(%v): got %q %v, want %q", c.s, got, ok, c.want)
		}
	}
	long, _ := impl.StoreSaved(savedOf("abcdefgh", longestRules(), 1))
	isInt(t, "the length of the longest rules", int64(long[13])+256*int64(long[14]), 1464)
	for _, s := range goodSaved() {
		got, ok := impl.StoreSaved(s)
		if want := slowStored(s); got != want || !ok {
			t.Errorf("StoreSaved(%v): got %q %v, want %q", s, got, ok, want)
		}
	}
	for _, s := range badSaved() {
		isNone(t, fmt.Sprintf("StoreSaved(%v)", s), results(impl.StoreSaved(s)))
	}
}

func TestLoadSaved(t *testing.T) {
	for _, s := range goodSaved() {
		stored := slowStored(s)
		got, ok := impl.LoadSaved(stored)
		isSaved(t, fmt.Sprintf("LoadSaved(%q)", stored), got, ok, s)
		for _, other := range []string{stored + "\x00", stored + "x", stored + stored, "\x00" + stored, stored[1:], stored[:len(stored)-1]} {
			isNone(t, fmt.Sprintf("LoadSaved(%q)", other), results(impl.LoadSaved(other)))
		}
	}
	// What would be stored of a Saved that is not valid is not loaded.
	for _, s := range badSaved() {
		if allFit(s.Incomes) {
			isNone(t, fmt.Sprintf("LoadSaved of %v", s), results(impl.LoadSaved(slowStored(s))))
		}
	}
	for _, s := range noStored() {
		isNone(t, fmt.Sprintf("LoadSaved(%q)", s), results(impl.LoadSaved(s)))
	}
}

// allFit reports whether each of some numbers has four bytes.
func allFit(list []int64) bool {
	return eachOf(list, func(n int64) bool { return n >= 0 && n < 1<<32 })
}

// checked returns bytes with their check number behind them.
func checked(s string) string { return s + slowCheck(s) }

// noStored has bytes that no Saved is stored as, most of them with a right check number.
func noStored() []string {
	const rules, incomes = "\x0d\x000-0 r0: => 1\n", "\x01\x07\x00\x00\x00"
	all := []string{
		"", "D", "DUE", "DUE1", "DUE1\x01", "DUE1\x01a", checked(""), checked("DUE1"), checked("DUE1\x01a\x00\x00"), strings.Repeat("\x00", 40), strings.Repeat("\xff", 70000),
		checked("DUE2\x01a" + rules + incomes), checked("due1\x01a" + rules + incomes), checked("\x01a" + rules + incomes), checked(" DUE1\x01a" + rules + incomes),
		checked("DUE1\x00" + rules + incomes), checked("DUE1\x09abcdefghi" + rules + incomes), checked("DUE1\x02a" + rules + incomes), checked("DUE1\x01aa" + rules + incomes),
		checked("DUE1\x01a" + rules + "\x00"), checked("DUE1\x01a" + rules + "\x02\x07\x00\x00\x00"), checked("DUE1\x01a" + rules + "\x00\x07\x00\x00\x00"),
		checked("DUE1\x01a" + rules + "\x01\x07\x00\x00"), checked("DUE1\x01a" + rules + "\x01\x07\x00\x00\x00\x00"),
		checked("DUE1\x01a" + rules + "\x01\x01\xca\x9a\x3b"), checked("DUE1\x01a" + rules + "\x01\xff\xff\xff\xff"),
		checked("DUE1\x01a" + rules + "\x41" + strings.Repeat("\x07\x00\x00\x00", 65)), checked("DUE1\x01a" + rules + "\xff" + strings.Repeat("\x07\x00\x00\x00", 255)),
		checked("DUE1\x01a\x00\x0d" + rules[2:] + incomes), checked("DUE1\x01a\x0d" + rules[2:] + incomes),
		"DUE1\x01a" + rules + incomes, "DUE1\x01a" + rules + incomes + "\x00\x00", "DUE1\x01a" + rules + incomes + slowCheck("DUE1\x01a"+rules),
	}
	// Check numbers with the greater byte first, and check numbers that begin with 1.
	whole := "DUE1\x01a" + rules + incomes
	check := slowCheck(whole)
	all = append(all, whole+check[1:]+check[:1], whole+check[:1], whole+check+check)
	for _, text := range []string{"0-0 r0: => 1", "\n", "0-0 r0: => 1\n\n", "0-0 r0: => 0\n", "0-0 r0:  => 1\n", "0-0 r0: => +1\n", "1-0 r0: => 1\n", "0-0 r0: => 1\r\n", strings.Repeat("0-0 r0: => 1\n", impl.MaxRules+1)} {
		all = append(all, checked("DUE1\x01a"+string([]byte{byte(len(text) % 256), byte(len(text) / 256)})+text+incomes))
	}
	return all
}

func TestStoreAll(t *testing.T) {
	all := goodSaved()
	for count := range impl.MaxSaved + 1 {
		for from := 0; from+count <= len(all); from += 7 {
			list, want := all[from:from+count], ""
			for _, s := range list {
				want += slowStored(s)
			}
			got, ok := impl.StoreAll(list)
			if got != want || !ok {
				t.Errorf("StoreAll(%v): got %q %v, want %q", list, got, ok, want)
			}
		}
	}
	got, ok := impl.StoreAll(nil)
	isTrue(t, "StoreAll of none", got == "" && ok)
	isNone(t, "StoreAll of too many", results(impl.StoreAll(all[:impl.MaxSaved+1])))
	for i, bad := range badSaved() {
		list := slices.Clone(all[:1+i%impl.MaxSaved])
		list[i/3%len(list)] = bad
		isNone(t, fmt.Sprintf("StoreAll(%v)", list), results(impl.StoreAll(list)))
	}
}

func isRecovered(t *testing.T, what, s string, want []impl.Saved) {
	t.Helper()
	length := 0
	for _, one := range want {
		length += len(slowStored(one))
	}
	got, n, ok := impl.RecoverAll(s)
	if !ok || int(n) != length || !slices.EqualFunc(got, want, sameSaved) {
		t.Errorf("%s: got %v, %d and %v, want %v and %d", what, got, n, ok, want, length)
	}
}

func TestRecoverAll(t *testing.T) {
	all := goodSaved()
	for count := range impl.MaxSaved + 1 {
		for from := 0; from+count < len(all); from += 7 {
			list, stored := all[from:from+count], ""
			for _, s := range list {
				stored += slowStored(s)
			}
			what := fmt.Sprintf("RecoverAll(%q)", stored)
			isRecovered(t, what, stored, list)
			for _, more := range []string{"\x00", "x", "DUE1", "DUE1\x01a", slowStored(all[0])[:27]} {
				isRecovered(t, what+" with bytes behind", stored+more, list)
				if count > 0 {
					isRecovered(t, what+" with bytes ahead", more+stored, nil)
					isRecovered(t, what+" with bytes between", stored+more+stored, list)
				}
			}
		}
	}
	for _, s := range noStored() {
		var want []impl.Saved
		if strings.HasPrefix(s, slowStored(all[0])) {
			want = all[:1]
		}
		isRecovered(t, fmt.Sprintf("RecoverAll(%q)", s), s, want)
	}
	isRecovered(t, "RecoverAll of no bytes", "", nil)
	isRecovered(t, "RecoverAll of one with its check number again", slowStored(all[0])+slowStored(all[0])[26:], all[:1])
}

// No more than MaxSaved are recovered, and the bytes of only these are counted.
func TestRecoverAllOfMore(t *testing.T) {
	all := goodSaved()
	stored := ""
	for _, s := range all[:impl.MaxSaved+3] {
		stored += slowStored(s)
	}
	isRecovered(t, "RecoverAll of too many", stored, all[:impl.MaxSaved])
	isRecovered(t, "RecoverAll of as many as there may be, and garbage", stored[:len(stored)-1], all[:impl.MaxSaved])
}
