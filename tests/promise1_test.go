package tests

import (
	"fmt"
	"math"
	"reflect"
	"slices"
	"strings"
	"testing"

	"loop.example/g01393/impl"
)

// A promise is tested with a list of calls for each chapter. A call takes its
// arguments from a shelf, and tells its results as text, in which only numbers
// that are the same look the same.
type call struct {
	name string
	do   func(s *shelf) string
}

// shelf has arguments of all kinds, many of them not valid. The slices have
// unused capacity, which is watched too.
type shelf struct {
	x, y    float32
	wide    float64
	z, w    complex64
	n       int64
	s       string
	numbers []float32
	others  []float32
	list    []complex64
	second  []complex64
	items   []int64
}

func told(values ...any) string {
	var b strings.Builder
	for _, v := range values {
		switch x := v.(type) {
		case float32:
			fmt.Fprintf(&b, "%08x ", bitsOf(x))
		case complex64:
			b.WriteString(told(real(x), imag(x)))
		case []float32:
			for _, y := range x {
				b.WriteString(told(y))
			}
			fmt.Fprintf(&b, "of %d ", len(x))
		case []complex64:
			for _, y := range x {
				b.WriteString(told(y))
			}
			fmt.Fprintf(&b, "of %d ", len(x))
		default:
			fmt.Fprintf(&b, "%q ", fmt.Sprint(x))
		}
	}
	return b.String()
}

// toldRaw tells the bits of all memory of a shelf, to the end of each capacity.
func (s *shelf) toldRaw() string {
	var b strings.Builder
	for _, list := range [][]float32{s.numbers, s.others} {
		for _, x := range list[:cap(list)] {
			fmt.Fprintf(&b, "%08x ", math.Float32bits(x))
		}
		b.WriteString("; ")
	}
	for _, list := range [][]complex64{s.list, s.second} {
		for _, x := range list[:cap(list)] {
			fmt.Fprintf(&b, "%08x %08x ", math.Float32bits(real(x)), math.Float32bits(imag(x)))
		}
		b.WriteString("; ")
	}
	fmt.Fprint(&b, s.items[:cap(s.items)], s.s)
	return b.String()
}

func callsOfChapter1() []call {
	return []call{
		{"SameNumber", func(s *shelf) string { return told(impl.SameNumber(s.x, s.y)) }},
		{"IsFinite", func(s *shelf) string { return told(impl.IsFinite(s.x)) }},
		{"BitsOf", func(s *shelf) string { return told(impl.BitsOf(s.x)) }},
		{"FromBits", func(s *shelf) string { x, ok := impl.FromBits(s.n); return told(x, ok) }},
		{"NarrowNumber", func(s *shelf) string { return told(impl.NarrowNumber(s.wide)) }},
		{"IsSubnormal", func(s *shelf) string { return told(impl.IsSubnormal(s.x)) }},
		{"FlushNumber", func(s *shelf) string { return told(impl.FlushNumber(s.x)) }},
		{"SameComplex", func(s *shelf) string { return told(impl.SameComplex(s.z, s.w)) }},
		{"IsFiniteComplex", func(s *shelf) string { return told(impl.IsFiniteComplex(s.z)) }},
		{"NarrowComplex", func(s *shelf) string { return told(impl.NarrowComplex(complex(s.wide, float64(s.y)))) }},
		{"MulComplex", func(s *shelf) string { return told(impl.MulComplex(s.z, s.w)) }},
		{"ScaleComplex", func(s *shelf) string { return told(impl.ScaleComplex(s.z, s.y)) }},
		{"ConjugateOf", func(s *shelf) string { return told(impl.ConjugateOf(s.z)) }},
		{"PowerOf", func(s *shelf) string { return told(impl.PowerOf(s.z)) }},
		{"LongOf", func(s *shelf) string { return told(impl.LongOf(s.z)) }},
		{"QuotientOf", func(s *shelf) string { return told(impl.QuotientOf(s.z, s.w)) }},
		{"PhasorOf", func(s *shelf) string { return told(impl.PhasorOf(s.wide)) }},
		{"AngleOf", func(s *shelf) string { return told(impl.AngleOf(s.z)) }},
		{"SineTurns", func(s *shelf) string { return told(impl.SineTurns(s.x)) }},
		{"AngleTurns", func(s *shelf) string { return told(impl.AngleTurns(s.y, s.x)) }},
		{"TenthsOf", func(s *shelf) string { n, ok := impl.TenthsOf(s.x); return told(n, ok) }},
		{"RootNumber", func(s *shelf) string { return told(impl.RootNumber(s.x)) }},
		{"ExpNumber", func(s *shelf) string { return told(impl.ExpNumber(s.x)) }},
		{"LogNumber", func(s *shelf) string { return told(impl.LogNumber(s.x)) }},
		{"SumNumbers", func(s *shelf) string { x, ok := impl.SumNumbers(s.numbers); return told(x, ok) }},
		{"DotNumbers", func(s *shelf) string { x, ok := impl.DotNumbers(s.numbers, s.others); return told(x, ok) }},
		{"SumComplex", func(s *shelf) string { z, ok := impl.SumComplex(s.list); return told(z, ok) }},
		{"DotComplex", func(s *shelf) string { z, ok := impl.DotComplex(s.list, s.second); return told(z, ok) }},
		{"DotConjugate", func(s *shelf) string { z, ok := impl.DotConjugate(s.list, s.second); return told(z, ok) }},
		{"PowersOf", func(s *shelf) string { x, ok := impl.PowersOf(s.list); return told(x, ok) }},
		{"NumbersText", func(s *shelf) string { text, ok := impl.NumbersText(s.numbers); return told(text, ok) }},
		{"ReadNumbers", func(s *shelf) string { list, ok := impl.ReadNumbers(s.s); return told(list, ok) }},
		{"ComplexText", func(s *shelf) string { text, ok := impl.ComplexText(s.list); return told(text, ok) }},
		{"ReadComplex", func(s *shelf) string { list, ok := impl.ReadComplex(s.s); return told(list, ok) }},
		{"IsName", func(s *shelf) string { return told(impl.IsName(s.s)) }},
		{"Decimal", func(s *shelf) string { return told(impl.Decimal(s.n)) }},
		{"ReadDecimal", func(s *shelf) string { n, ok := impl.ReadDecimal(s.s); return told(n, ok) }},
		{"ListText", func(s *shelf) string { text, ok := impl.ListText(s.items); return told(text, ok) }},
		{"ReadList", func(s *shelf) string { list, ok := impl.ReadList(s.s); return told(list, ok) }},
		{"CheckOf", func(s *shelf) string { n, ok := impl.CheckOf(s.n, s.s); return told(n, ok) }},
	}
}

// shelves returns many shelves with arguments of all sizes.
func shelves() []*shelf {
	texts := []string{"", "none", "a", "ring", "0", "-0", "1,2", "3f800000", "7fc00001", "3f80000000000000,00000000c0000000", "\xff\x00", strings.Repeat("0,", 5000), strings.Repeat("\u20ac", 300)}
	integers := []int64{0, 1, -1, 65002, 65003, 4294967295, 4294967296, 1000000000000000, math.MinInt64, math.MaxInt64}
	wides := []float64{0, math.Copysign(0, -1), 0.3, -1e-300, 1e300, 0x1p52, -0x1p51, math.Inf(1), math.Inf(-1), math.NaN()}
	lengths := []int{0, 1, 2, 63, 64, 65, 255, 256, 257, 1000}
	g := lcg(5)
	var all []*shelf
	for i, x := range specials() {
		for j, y := range specials() {
			k := i*31 + j
			n := lengths[k%len(lengths)]
			s := &shelf{x: x, y: y, wide: wides[k%len(wides)], z: complex(x, y), w: complex(y, x), n: integers[k%len(integers)], s: texts[k%len(texts)]}
			for range n + 5 {
				s.numbers = append(s.numbers, number(g.bits()))
				s.others = append(s.others, number(g.bits()))
				s.list = append(s.list, pair(g.bits(), g.bits()))
				s.second = append(s.second, pair(g.bits(), g.bits()))
				s.items = append(s.items, int64(g.next())-1<<31)
			}
			s.numbers, s.others, s.items = s.numbers[:n], s.others[:n-n/1000], s.items[:n]
			s.list, s.second = s.list[:n], s.second[:n]
			all = append(all, s)
		}
	}
	return all
}

// Promise 1: every function returns for all arguments, modifies none of them,
// and returns equal results for equal arguments.
func TestPromise1Chapter1(t *testing.T) {
	for _, s := range shelves() {
		before := s.toldRaw()
		for _, c := range callsOfChapter1() {
			first := c.do(s)
			if second := c.do(s); first != second {
				t.Fatalf("%s: %s, and then %s", c.name, first, second)
			}
		}
		if after := s.toldRaw(); after != before {
			t.Fatalf("arguments have changed from %s to %s", before, after)
		}
	}
}

// All not-a-numbers are one value, so no result may tell them apart.
func TestPromise1NotANumbers(t *testing.T) {
	made := func(bits uint32) *shelf {
		x := number(bits)
		z := complex(x, x)
		return &shelf{x: x, y: x, wide: float64(x), z: z, w: z, s: "none", numbers: []float32{x, 1}, others: []float32{1, x}, list: []complex64{z, 1}, second: []complex64{1, z}}
	}
	for _, c := range callsOfChapter1() {
		want := c.do(made(bitsNaN))
		for _, bits := range []uint32{bitsOddNaN, bitsNegNaN, 0x7fffffff, 0xffffffff} {
			if got := c.do(made(bits)); got != want {
				t.Errorf("%s of the not-a-number %08x: got %s, want %s", c.name, bits, got, want)
			}
		}
	}
}

// Every returned slice is new memory.
func TestPromise1NewMemory(t *testing.T) {
	a, _ := impl.ReadNumbers("3f800000,c0000000")
	b, _ := impl.ReadComplex("3f80000000000000,00000000c0000000")
	c, _ := impl.ReadList("1,2,3")
	a[0], b[0], c[0] = 9, 9, 9
	x, one := impl.ReadNumbers("3f800000,c0000000")
	y, two := impl.ReadComplex("3f80000000000000,00000000c0000000")
	z, three := impl.ReadList("1,2,3")
	if !one || !two || !three || x[0] != 1 || y[0] != 1 || z[0] != 1 {
		t.Errorf("a result was changed by way of another one: %v, %v, %v", x, y, z)
	}
}

// lists returns all slices of integers among the arguments.
func (a *scaleArguments) lists() [][]int64 {
	return [][]int64{a.s.Breaks, a.s.Rates, a.other.Breaks, a.other.Rates, a.pays, a.amounts, a.breaks, a.duesThere}
}

// toldRaw tells all memory of the lists, to the end of each capacity.
func (a *scaleArguments) toldRaw() string {
	var b strings.Builder
	for _, list := range a.lists() {
		fmt.Fprint(&b, len(list), list[:cap(list)])
	}
	return b.String()
}

// roomy returns a list with unused capacity that is not 0.
func roomy(list []int64) []int64 {
	long := append(slices.Clone(list), 11, 12, 13, 14, 15, 16, 17, 18, 19)
	return long[:len(list)]
}

func roomyScale(s impl.Scale) impl.Scale {
	return impl.Scale{Breaks: roomy(s.Breaks), Rates: roomy(s.Rates)}
}

// scaleShelves has many arguments for chapter 2, valid ones and others.
func scaleShelves() []*scaleArguments {
	const most = impl.MaxCents
	numbers := []int64{0, 1, 2, 3, 7, 60, 999, 1000, 1001, 5000, 9999, 10000, 10001, 20000, 1000000, most - 1, most, most + 1, -1, -5000, math.MinInt64, math.MaxInt64}
	lists := append(payLists(), nil, []int64{-1}, []int64{most, most}, []int64{0, 1000}, []int64{0, 100}, []int64{math.MinInt64, math.MaxInt64})
	scales := append(goodScales(), badScales()...)
	g := lcg(11)
	number := func() int64 { return numbers[g.next()%uint64(len(numbers))] }
	list := func() []int64 { return roomy(lists[g.next()%uint64(len(lists))]) }
	all := []*scaleArguments{goodArguments()}
	for i := range 3000 {
		a := &scaleArguments{cents: number(), net: number(), due: number(), credit: number(), full: number(), start: number(), limit: number(), free: number()}
		a.rate, a.last, a.round = number(), number(), number()
		a.quotAbove, a.quotBelow, a.mix, a.above, a.below = number(), number(), number(), number(), number()
		a.index, a.step, a.workers, a.back = number(), number(), number(), i%2 == 0
		a.s, a.other = roomyScale(scales[i%len(scales)]), roomyScale(scales[g.next()%uint64(len(scales))])
		a.pays, a.amounts, a.breaks, a.duesThere = list(), list(), list(), list()
		all = append(all, a)
	}
	for _, s := range goodScales() {
		a := goodArguments()
		a.s, a.other = roomyScale(s), roomyScale(scaleWith(0, 0, 3, 5))
		a.pays, a.amounts, a.breaks, a.duesThere = roomy(a.pays), roomy(a.amounts), roomy(a.breaks), roomy(a.duesThere)
		all = append(all, a)
	}
	return all
}

func TestPromise1Chapter2(t *testing.T) {
	returnSame(t, callsOfChapter2(), scaleShelves())
	for _, a := range scaleShelves() {
		isTrue(t, "SameScale of a scale and itself", impl.SameScale(a.s, a.s))
	}
}

func TestPromise1NewMemoryOfChapter2(t *testing.T) {
	returnNew(t, callsOfChapter2(), scaleShelves())
}

// rawTeller tells all memory of arguments, to the end of each capacity.
type rawTeller interface {
	toldRaw() string
}

// returnSame checks that functions return equal results for equal arguments,
// zero values if they fail, and modify no argument.
func returnSame[A rawTeller](t *testing.T, calls []argumentCall[A], all []A) {
	t.Helper()
	for _, a := range all {
		before := a.toldRaw()
		for _, c := range calls {
			first, second := c.do(a), c.do(a)
			if told(first...) != told(second...) {
				t.Fatalf("%s: %v, and then %v", c.name, first, second)
			}
			if first[len(first)-1] == false && !failed(first) {
				t.Fatalf("%s: got %v with false", c.name, first)
			}
		}
		if after := a.toldRaw(); after != before {
			t.Fatalf("arguments have changed from %s to %s", before, after)
		}
	}
}

// someSucceed checks that each function succeeds for some of many arguments,
// and fails for others.
func someSucceed[A any](t *testing.T, calls []argumentCall[A], all []A) {
	t.Helper()
	for _, c := range calls {
		succeeded := 0
		for _, a := range all {
			if got := c.do(a); got[len(got)-1] == true {
				succeeded++
			}
		}
		isTrue(t, fmt.Sprintf("%s succeeds for some of many arguments: %d", c.name, succeeded), succeeded > 100 && succeeded < len(all))
	}
}

// slicesOf returns all slices among results, also those in structs, and behind
// a slice of structs those in them.
func slicesOf(values []any) []reflect.Value {
	var all []reflect.Value
	for _, v := range values {
		x := reflect.ValueOf(v)
		switch x.Kind() {
		case reflect.Slice:
			all = append(all, x)
			for i := 0; i < x.Len() && x.Index(i).Kind() == reflect.Struct; i++ {
				all = append(all, slicesOf([]any{x.Index(i).Interface()})...)
			}
		case reflect.Struct:
			for i := range x.NumField() {
				all = append(all, slicesOf([]any{x.Field(i).Interface()})...)
			}
		}
	}
	return all
}

// overwrite changes all numbers of a value, those of a slice up to its capacity,
// but not those of slices in structs.
func overwrite(x reflect.Value) {
	switch x.Kind() {
	case reflect.Int64:
		x.SetInt(-77)
	case reflect.Float32:
		x.SetFloat(-77)
	case reflect.Struct:
		for i := range x.NumField() {
			if x.Field(i).Kind() != reflect.Slice {
				overwrite(x.Field(i))
			}
		}
	case reflect.Slice:
		whole := x.Slice(0, x.Cap())
		for i := range whole.Len() {
			overwrite(whole.Index(i))
		}
	}
}

// returnNew checks that each slice of a result is new: when it is overwritten,
// no argument changes, nor any other slice of the result.
func returnNew[A rawTeller](t *testing.T, calls []argumentCall[A], all []A) {
	t.Helper()
	for _, a := range all {
		before := a.toldRaw()
		for _, c := range calls {
			made := c.do(a)
			want := fmt.Sprint(made)
			lists := slicesOf(made)
			for i := range lists {
				others := fmt.Sprint(lists[i+1:])
				overwrite(lists[i])
				if fmt.Sprint(lists[i+1:]) != others {
					t.Fatalf("%s: slices of a result share memory", c.name)
				}
			}
			if again := fmt.Sprint(c.do(a)); again != want || a.toldRaw() != before {
				t.Fatalf("%s: got %s, but %s when the result was overwritten", c.name, want, again)
			}
		}
	}
}
