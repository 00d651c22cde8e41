package tests

import (
	"fmt"
	"math"
	"slices"
	"strings"
	"testing"

	"loop.example/g01393/impl"
)

func TestNumbersText(t *testing.T) {
	for _, c := range []struct {
		list []float32
		want string
	}{
		{nil, "none"},
		{[]float32{}, "none"},
		{[]float32{1, -2}, "3f800000,c0000000"},
		{[]float32{0, number(bitsMinus), number(bitsLeast), number(0x80000abc)}, "00000000,80000000,00000001,80000abc"},
		{[]float32{number(bitsInf), number(bitsNegInf), number(bitsMost)}, "7f800000,ff800000,7f7fffff"},
		{[]float32{number(bitsNaN), number(bitsOddNaN), number(bitsNegNaN)}, "7fc00000,7fc00000,7fc00000"},
	} {
		got, ok := impl.NumbersText(c.list)
		if !ok || got != c.want {
			t.Errorf("NumbersText(%v): got %q %v, want %q", c.list, got, ok, c.want)
		}
		list, ok := impl.ReadNumbers(c.want)
		if !ok || !slices.EqualFunc(list, c.list, impl.SameNumber) {
			t.Errorf("ReadNumbers(%q): got %v %v, want %v", c.want, list, ok, c.list)
		}
	}
}

func TestComplexText(t *testing.T) {
	for _, c := range []struct {
		list []complex64
		want string
	}{
		{nil, "none"},
		{[]complex64{}, "none"},
		{[]complex64{1}, "3f80000000000000"},
		{[]complex64{1, complex(0, -2)}, "3f80000000000000,00000000c0000000"},
		{[]complex64{pair(bitsMinus, bitsLeast), pair(bitsNegInf, bitsNegNaN)}, "8000000000000001,ff8000007fc00000"},
		{[]complex64{pair(bitsOddNaN, bitsMinus)}, "7fc0000080000000"},
	} {
		got, ok := impl.ComplexText(c.list)
		if !ok || got != c.want {
			t.Errorf("ComplexText(%v): got %q %v, want %q", c.list, got, ok, c.want)
		}
		list, ok := impl.ReadComplex(c.want)
		if !ok || !slices.EqualFunc(list, c.list, impl.SameComplex) {
			t.Errorf("ReadComplex(%q): got %v %v, want %v", c.want, list, ok, c.list)
		}
	}
}

func TestTextsOfAllNumbers(t *testing.T) {
	g := lcg(4)
	for range 300 {
		var numbers []float32
		var list []complex64
		for range g.next() % 257 {
			numbers = append(numbers, number(uint32(g.next())))
			list = append(list, pair(uint32(g.next()), uint32(g.next())))
		}
		s, one := impl.NumbersText(numbers)
		n, two := impl.ReadNumbers(s)
		if !one || !two || !slices.EqualFunc(n, numbers, impl.SameNumber) {
			t.Fatalf("the numbers %v are not read back from %q", numbers, s)
		}
		s, one = impl.ComplexText(list)
		c, two := impl.ReadComplex(s)
		if !one || !two || !slices.EqualFunc(c, list, impl.SameComplex) {
			t.Fatalf("the complex numbers %v are not read back from %q", list, s)
		}
	}
}

// badHex has texts of which no part is one of 8 digits that BitsOf returns.
func badHex() []string {
	return []string{
		"", ",", "1", "3f80000", "3f8000000", "3F800000", "3f80000g", "3f80000`", "3f80000/", "3f80000:", "3f80000@",
		" 3f800000", "3f800000 ", "3f80000\n", "+3f80000", "-3f80000", "0x3f8000", "3f_80000", "3f80000\x00", "3f80000\xff",
		"3f80000\u00e9", "3f800\u0660", "\uff13f8000", "\U0001d7d13f80", "None", "none,", "nonenone", "nope",
		"7fc00001", "7f800001", "7fffffff", "ffc00000", "ff800001", "ffffffff", // BitsOf tells no not-a-number so
	}
}

func TestReadNumbersOfOtherTexts(t *testing.T) {
	list := badHex()
	for _, s := range badHex() {
		list = append(list, "3f800000,"+s, s+",3f800000", "3f800000,"+s+",3f800000")
	}
	list = append(list, "none,3f800000", "3f800000,none", "3f800000;3f800000", "3f80000000000000", strings.Repeat("3f800000,", 256), strings.Repeat(",", 1000))
	for _, s := range list {
		got, ok := impl.ReadNumbers(s)
		if ok || len(got) != 0 {
			t.Errorf("ReadNumbers(%q): got %v %v", s, got, ok)
		}
	}
}

func TestReadComplexOfOtherTexts(t *testing.T) {
	list := []string{"3f800000", "3f80000000000000,", ",3f80000000000000", "3f800000,00000000", "3f80000000000000,00000000", "none,3f80000000000000", "3f800000000000000", "3f8000000000000", "3f800000 0000000", "3f800000\u00e9000000", "3f80000\u00e90000000"}
	for _, s := range badHex() {
		list = append(list, s, s+"00000000", "00000000"+s, "3f80000000000000,"+s+"00000000")
	}
	for _, s := range list {
		got, ok := impl.ReadComplex(s)
		if ok || len(got) != 0 {
			t.Errorf("ReadComplex(%q): got %v %v", s, got, ok)
		}
	}
}

func TestTextsOfLongLists(t *testing.T) {
	for _, n := range []int{255, 256, 257} {
		fits := n <= 256
		numbers := strings.Repeat(",3f800000", n)[1:]
		list := strings.Repeat(",3f80000000000000", n)[1:]
		one, two := make([]float32, n), make([]complex64, n)
		for i := range n {
			one[i], two[i] = 1, 1
		}
		s, ok := impl.NumbersText(one)
		if ok != fits || fits && s != numbers || !fits && s != "" {
			t.Errorf("NumbersText of %d: got %q %v", n, s, ok)
		}
		s, ok = impl.ComplexText(two)
		if ok != fits || fits && s != list || !fits && s != "" {
			t.Errorf("ComplexText of %d: got %q %v", n, s, ok)
		}
		a, ok := impl.ReadNumbers(numbers)
		if ok != fits || fits && !slices.Equal(a, one) || !fits && len(a) != 0 {
			t.Errorf("ReadNumbers of %d: got %v %v", n, a, ok)
		}
		b, ok := impl.ReadComplex(list)
		if ok != fits || fits && !slices.Equal(b, two) || !fits && len(b) != 0 {
			t.Errorf("ReadComplex of %d: got %v %v", n, b, ok)
		}
	}
}

func TestIsName(t *testing.T) {
	for _, s := range []string{"a", "z", "ring", "abcdefgh", "zzzzzzzz"} {
		isTrue(t, fmt.Sprintf("IsName(%q)", s), impl.IsName(s))
	}
	for _, s := range []string{"", "abcdefghi", "A", "aB", "a1", "1", "a b", "a ", "`", "{", "a\x00", "a\xff", "\u00e9", "abcdefg\u00e9", "ab,c", "\n", strings.Repeat("a", 100000)} {
		isFalse(t, fmt.Sprintf("IsName(%.20q)", s), impl.IsName(s))
	}
}

func TestDecimal(t *testing.T) {
	for _, c := range []struct {
		n    int64
		want string
	}{
		{0, "0"}, {7, "7"}, {10, "10"}, {-4, "-4"}, {-10, "-10"},
		{1000000000000000, "1000000000000000"},
		{-1000000000000001, "-1000000000000001"},
		{math.MaxInt64, "9223372036854775807"},
		{math.MinInt64, "-9223372036854775808"},
	} {
		if got := impl.Decimal(c.n); got != c.want {
			t.Errorf("Decimal(%d): got %q", c.n, got)
		}
	}
}

// badDecimals has texts that are Decimal of no number that is allowed.
func badDecimals() []string {
	return []string{
		"", "-", "--1", "-0", "00", "01", "-01", "+1", "+0", "1.0", "1e3", "0x1", "1_0", "0_1", " 1", "1 ", "1\n", "\x001", "1\xff",
		"a", "None", "\u0661", "\uff11", "\u22121", "1000000000000001", "-1000000000000001", "10000000000000000",
		"9223372036854775807", "-9223372036854775808", "9223372036854775808", "18446744073709551617", strings.Repeat("9", 1000), strings.Repeat("0", 1000),
	}
}

func TestReadDecimal(t *testing.T) {
	for _, n := range []int64{0, 1, -1, 9, 10, -10, 100, 65003, 999999999999999, -999999999999999, 1000000000000000, -1000000000000000} {
		got, ok := impl.ReadDecimal(impl.Decimal(n))
		if !ok || got != n {
			t.Errorf("ReadDecimal of %d: got %d %v", n, got, ok)
		}
	}
	for _, s := range append(badDecimals(), "none", "1,2", ",") {
		got, ok := impl.ReadDecimal(s)
		if ok || got != 0 {
			t.Errorf("ReadDecimal(%.30q): got %d %v", s, got, ok)
		}
	}
}

func TestListText(t *testing.T) {
	for _, c := range []struct {
		list []int64
		want string
	}{
		{nil, "none"},
		{[]int64{}, "none"},
		{[]int64{0}, "0"},
		{[]int64{3, -4, 0, 3}, "3,-4,0,3"},
		{[]int64{1000000000000000, -1000000000000000}, "1000000000000000,-1000000000000000"},
		{make([]int64, 63), "0" + strings.Repeat(",0", 62)},
		{make([]int64, 64), "0" + strings.Repeat(",0", 63)},
	} {
		got, ok := impl.ListText(c.list)
		if !ok || got != c.want {
			t.Errorf("ListText(%v): got %q %v", c.list, got, ok)
		}
		list, ok := impl.ReadList(c.want)
		if !ok || !slices.Equal(list, c.list) {
			t.Errorf("ReadList(%q): got %v %v", c.want, list, ok)
		}
	}
	for _, list := range [][]int64{make([]int64, 65), make([]int64, 1000), {1000000000000001}, {-1000000000000001}, {0, math.MinInt64}, {math.MaxInt64, 0}} {
		got, ok := impl.ListText(list)
		if ok || got != "" {
			t.Errorf("ListText(%v): got %q %v", list, got, ok)
		}
	}
}

func TestReadListOfOtherTexts(t *testing.T) {
	list := []string{"none,1", "1,none", "nonen", "1;2", "1, 2", "0" + strings.Repeat(",0", 64), strings.Repeat(",", 100000)}
	for _, s := range badDecimals() {
		list = append(list, s, "1,"+s, s+",1", "1,"+s+",2")
	}
	for _, s := range list {
		got, ok := impl.ReadList(s)
		if ok || len(got) != 0 {
			t.Errorf("ReadList(%.30q): got %v %v", s, got, ok)
		}
	}
}

func TestCheckOf(t *testing.T) {
	for _, c := range []struct {
		start int64
		s     string
		want  int64
	}{
		{0, "", 0},
		{65002, "", 65002},
		{0, "a", 326},
		{65002, "a", 64358},
		{0, "\x00", 229},
		{0, "\xff", 484},
		{0, "\u00e9", (971*(0xc3+229) + 0xa9 + 229) % 65003}, // bytes, not runes
		{1, "\xff\xfe", (971*(971+255+229) + 254 + 229) % 65003},
	} {
		got, ok := impl.CheckOf(c.start, c.s)
		if !ok || got != c.want {
			t.Errorf("CheckOf(%d, %q): got %d %v, want %d", c.start, c.s, got, ok, c.want)
		}
	}
	for _, start := range []int64{-1, 65003, 65004, math.MinInt64, math.MaxInt64} {
		for _, s := range []string{"", "a"} {
			got, ok := impl.CheckOf(start, s)
			if ok || got != 0 {
				t.Errorf("CheckOf(%d, %q): got %d %v", start, s, got, ok)
			}
		}
	}
	s := "any bytes \x80\xff\u20ac, and more"
	whole, _ := impl.CheckOf(17, s)
	for i := range len(s) + 1 {
		first, _ := impl.CheckOf(17, s[:i])
		if got, ok := impl.CheckOf(first, s[i:]); !ok || got != whole {
			t.Errorf("CheckOf in two parts at %d: got %d %v, want %d", i, got, ok, whole)
		}
	}
}
