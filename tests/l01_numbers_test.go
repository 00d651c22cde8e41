package tests

import (
	"fmt"
	"math"
	"testing"

	"loop.example/g01393/impl"
)

func TestLimitsOfChapter1(t *testing.T) {
	if impl.MaxNumbers != 256 || impl.MaxValue != 1000000000000000 || impl.MaxItems != 64 || impl.CheckSize != 65003 {
		t.Error("a limit differs from the document")
	}
}

// Promise 2: numbers and complex numbers are told by their bits.
func TestSameNumber(t *testing.T) {
	for _, a := range specials() {
		for _, b := range specials() {
			want := a != a && b != b || a == b && math.Signbit(float64(a)) == math.Signbit(float64(b))
			if got := impl.SameNumber(a, b); got != want {
				t.Errorf("SameNumber(%v, %v): got %v", a, b, got)
			}
			if got := impl.SameComplex(complex(a, b), complex(a, b)); !got {
				t.Errorf("SameComplex of %v, %v and itself: got false", a, b)
			}
			if got := impl.SameComplex(complex(a, 1), complex(b, 1)); got != want {
				t.Errorf("SameComplex of real parts %v, %v: got %v", a, b, got)
			}
			if got := impl.SameComplex(complex(1, a), complex(1, b)); got != want {
				t.Errorf("SameComplex of imaginary parts %v, %v: got %v", a, b, got)
			}
		}
	}
}

func TestIsFinite(t *testing.T) {
	for _, x := range specials() {
		want := float64(x) >= -math.MaxFloat32 && float64(x) <= math.MaxFloat32
		if got := impl.IsFinite(x); got != want {
			t.Errorf("IsFinite(%v): got %v", x, got)
		}
		if impl.IsFiniteComplex(complex(x, 1)) != want || impl.IsFiniteComplex(complex(1, x)) != want {
			t.Errorf("IsFiniteComplex with %v: want %v", x, want)
		}
	}
	isFalse(t, "IsFiniteComplex of infinities", impl.IsFiniteComplex(pair(bitsInf, bitsNaN)))
}

func TestBitsAndBack(t *testing.T) {
	check := func(bits uint32) {
		x, ok := impl.FromBits(int64(bits))
		isTrue(t, "FromBits", ok)
		if want := number(bits); bitsOf(x) != bitsOf(want) {
			t.Errorf("FromBits(%08x): got %v, want %v", bits, x, want)
		}
		if got := impl.BitsOf(x); got != int64(bitsOf(number(bits))) {
			t.Errorf("BitsOf(FromBits(%08x)): got %d", bits, got)
		}
	}
	for _, x := range specials() {
		check(math.Float32bits(x))
	}
	for bits := uint64(0); bits <= 0xffffffff; bits += 65521 {
		check(uint32(bits))
	}
	check(0xffffffff)
	for _, b := range []uint32{bitsNaN, bitsOddNaN, bitsNegNaN, 0xffffffff, 0x7fffffff} {
		if got := impl.BitsOf(number(b)); got != 2143289344 {
			t.Errorf("BitsOf the not-a-number %08x: got %d", b, got)
		}
	}
	if got := impl.BitsOf(1); got != 1065353216 {
		t.Errorf("BitsOf(1): got %d", got)
	}
	if got := impl.BitsOf(number(bitsMinus)); got != 2147483648 {
		t.Errorf("BitsOf(-0): got %d", got)
	}
	for _, n := range []int64{-1, 4294967296, 4294967296 + 1065353216, math.MinInt64, math.MaxInt64} {
		x, ok := impl.FromBits(n)
		isFalse(t, fmt.Sprint("FromBits ", n), ok)
		isNumber(t, fmt.Sprint("FromBits ", n), x, bitsZero)
	}
}

func TestNarrowNumber(t *testing.T) {
	for _, c := range []struct {
		x    float64
		want uint32
	}{
		{0.5, 0x3f000000},
		{0, bitsZero},
		{math.Copysign(0, -1), bitsMinus},
		{0x1.000001p0, bitsOne},         // a tie, down to the even one
		{0x1.000003p0, 0x3f800002},      // a tie, up to the even one
		{0x1.00000100001p0, 0x3f800001}, // a little more than a tie
		{0x1.000000fffffp0, bitsOne},    // a little less than one
		{0x1p-150, bitsZero},            // a tie of subnormal numbers
		{-0x1p-150, bitsMinus},
		{0x1.0000000000001p-150, bitsLeast},
		{0x1.8p-149, 2}, // ties of 1.5 and 2.5 units
		{0x1.4p-148, 2},
		{0x1.fffffep-127, bitsNormal},      // a tie below the least normal number
		{0x1.fffffap-127, bitsLastSub - 1}, // a tie below the greatest subnormal number
		{0x1.fffffefffffffp127, bitsMost},
		{0x1.ffffffp127, bitsInf}, // a tie between the greatest number and 2^128
		{-0x1.ffffffp127, bitsNegInf},
		{1e300, bitsInf},
		{math.SmallestNonzeroFloat64, bitsZero},
		{-math.SmallestNonzeroFloat64, bitsMinus},
		{math.Inf(1), bitsInf},
		{math.Inf(-1), bitsNegInf},
		{math.NaN(), bitsNaN},
		{math.Float64frombits(0xfff0000000000001), bitsNaN},
	} {
		what := fmt.Sprintf("NarrowNumber(%x)", c.x)
		isNumber(t, what, impl.NarrowNumber(c.x), c.want)
		isComplex(t, "real part of "+what, impl.NarrowComplex(complex(c.x, 2)), c.want, 0x40000000)
		isComplex(t, "imaginary part of "+what, impl.NarrowComplex(complex(2, c.x)), 0x40000000, c.want)
	}
}

func TestSubnormals(t *testing.T) {
	for _, c := range []struct {
		bits, want uint32
		subnormal  bool
	}{
		{bitsZero, bitsZero, false},
		{bitsMinus, bitsMinus, false},
		{bitsLeast, bitsZero, true},
		{0x80000001, bitsMinus, true},
		{0x00400000, bitsZero, true},
		{bitsLastSub, bitsZero, true},
		{0x807fffff, bitsMinus, true},
		{bitsNormal, bitsNormal, false},
		{0x80800000, 0x80800000, false},
		{bitsOne, bitsOne, false},
		{bitsMost, bitsMost, false},
		{bitsInf, bitsInf, false},
		{bitsNegInf, bitsNegInf, false},
		{bitsNaN, bitsNaN, false},
		{bitsNegNaN, bitsNaN, false},
	} {
		x := number(c.bits)
		if got := impl.IsSubnormal(x); got != c.subnormal {
			t.Errorf("IsSubnormal(%08x): got %v", c.bits, got)
		}
		isNumber(t, fmt.Sprintf("FlushNumber(%08x)", c.bits), impl.FlushNumber(x), c.want)
	}
}

// Promise 2: products of small integers are exact.
func TestProductsOfSmallIntegers(t *testing.T) {
	const most = 5
	for a := -most; a <= most; a++ {
		for b := -most; b <= most; b++ {
			for c := -most; c <= most; c++ {
				for d := -most; d <= most; d++ {
					x, y := complex(float32(a), float32(b)), complex(float32(c), float32(d))
					p := impl.MulComplex(x, y)
					if real(p) != float32(a*c-b*d) || imag(p) != float32(a*d+b*c) {
						t.Fatalf("MulComplex(%v, %v): got %v", x, y, p)
					}
					if q := impl.QuotientOf(p, y); y != 0 && q != x {
						t.Fatalf("QuotientOf(%v, %v): got %v, want %v", p, y, q, x)
					}
				}
			}
			x := complex(float32(a), float32(b))
			if got := impl.PowerOf(x); got != float32(a*a+b*b) {
				t.Fatalf("PowerOf(%v): got %v", x, got)
			}
			if p := impl.ScaleComplex(x, 3); p != complex(float32(3*a), float32(3*b)) {
				t.Fatalf("ScaleComplex(%v, 3): got %v", x, p)
			}
		}
	}
	isComplex(t, "(4095 + i) (4095 - i)", impl.MulComplex(complex(4095, 1), complex(4095, -1)), 0x4b7fe002, bitsZero)
}

func TestMulComplex(t *testing.T) {
	for _, c := range []struct {
		x, y   complex64
		re, im uint32
	}{
		{complex(1, 2), complex(3, -1), 0x40a00000, 0x40a00000},
		// the parts are exact until the end: 2^-46 is left
		{complex(0x1.000002p0, 1), complex(0x1.000002p0, 0x1.000004p0), 0x28800000, 0x40000002},
		// 2^200 - 2^200 is 0, and 2^201 too large in the end only
		{complex(0x1p100, 0x1p100), complex(0x1p100, 0x1p100), bitsZero, bitsInf},
		{complex(0x1p-100, 0), complex(0x1p-100, 0), bitsZero, bitsZero},
		{complex(-1, 0), complex(0, 0), bitsMinus, bitsZero},
		{complex(0, 0), complex(-1, 0), bitsMinus, bitsZero},
		{pair(bitsMinus, bitsMinus), complex(1, 0), bitsZero, bitsMinus},
		{pair(bitsLeast, bitsZero), complex(1, 0), bitsLeast, bitsZero},
		{pair(bitsLeast, bitsZero), complex(0.5, 0), bitsZero, bitsZero},
		{pair(3, bitsZero), complex(0.5, 0), 2, bitsZero},
		// no part is saved from becoming a not-a-number
		{pair(bitsInf, bitsZero), complex(1, 0), bitsInf, bitsNaN},
		{pair(bitsInf, bitsInf), complex(1, 1), bitsNaN, bitsInf},
		{pair(bitsNaN, bitsZero), complex(1, 0), bitsNaN, bitsNaN},
		{complex(1, 0), pair(bitsOne, bitsOddNaN), bitsNaN, bitsNaN},
	} {
		what := fmt.Sprintf("MulComplex(%x, %x)", c.x, c.y)
		isComplex(t, what, impl.MulComplex(c.x, c.y), c.re, c.im)
	}
}

func TestScaleComplex(t *testing.T) {
	for _, c := range []struct {
		x      complex64
		by     float32
		re, im uint32
	}{
		{complex(1, 2), 0.5, 0x3f000000, bitsOne},
		{complex(1, -2), number(bitsMinus), bitsMinus, bitsZero},
		{complex(0x1.000002p0, 3), 0x1.000002p0, 0x3f800002, 0x40400002},
		{pair(bitsLeast, 0x80000003), 0.5, bitsZero, 0x80000002},
		{pair(bitsMost, bitsOne), 2, bitsInf, 0x40000000},
		{pair(bitsInf, bitsOne), 0, bitsNaN, bitsZero},
		{complex(1, 2), number(bitsNegNaN), bitsNaN, bitsNaN},
		{pair(bitsNaN, bitsOne), 2, bitsNaN, 0x40000000},
	} {
		isComplex(t, fmt.Sprintf("ScaleComplex(%x, %x)", c.x, c.by), impl.ScaleComplex(c.x, c.by), c.re, c.im)
	}
}

func TestConjugateOf(t *testing.T) {
	isComplex(t, "of 1 + 2 i", impl.ConjugateOf(complex(1, 2)), bitsOne, 0xc0000000)
	isComplex(t, "of 1 + 0 i", impl.ConjugateOf(complex(1, 0)), bitsOne, bitsMinus)
	isComplex(t, "of -0 - 0 i", impl.ConjugateOf(pair(bitsMinus, bitsMinus)), bitsMinus, bitsZero)
	isComplex(t, "of infinities", impl.ConjugateOf(pair(bitsInf, bitsInf)), bitsInf, bitsNegInf)
	for _, x := range specials() {
		z := complex(x, x)
		isTrue(t, "twice", impl.SameComplex(impl.ConjugateOf(impl.ConjugateOf(z)), z))
	}
}

func TestPowerAndLength(t *testing.T) {
	for _, c := range []struct {
		x           complex64
		power, long uint32
	}{
		{complex(3, 4), 0x41c80000, 0x40a00000},
		{complex(-3, -4), 0x41c80000, 0x40a00000},
		{0, bitsZero, bitsZero},
		{pair(bitsMinus, bitsMinus), bitsZero, bitsZero},
		{pair(bitsLeast, bitsZero), bitsZero, bitsLeast}, // the square is not lost before the root
		{complex(0x1p127, 0x1p127), bitsInf, 0x7f3504f3},
		{pair(bitsMost, bitsMost), bitsInf, bitsInf},
		{complex(0x1p12, 1), 0x4b800000, 0x45800000},        // 2^24 + 1, a tie
		{complex(0x1.000002p12, 1), 0x4b800003, 0x45800001}, // 2^24 + 5 + 2^-22
		{pair(bitsInf, bitsOne), bitsInf, bitsInf},
		{pair(bitsOne, bitsNegInf), bitsInf, bitsInf},
		{pair(bitsInf, bitsNaN), bitsNaN, bitsNaN},
		{pair(bitsNegNaN, bitsOne), bitsNaN, bitsNaN},
	} {
		isNumber(t, fmt.Sprintf("PowerOf(%x)", c.x), impl.PowerOf(c.x), c.power)
		isNumber(t, fmt.Sprintf("LongOf(%x)", c.x), impl.LongOf(c.x), c.long)
	}
}

func TestQuotientOf(t *testing.T) {
	for _, c := range []struct {
		x, y   complex64
		re, im uint32
	}{
		{complex(0, 4), 2, bitsZero, 0x40000000},
		{complex(1, 2), complex(3, 4), 0x3ee147ae, 0x3da3d70a},
		{pair(bitsLeast, bitsZero), pair(bitsLeast, bitsZero), bitsOne, bitsZero},
		{complex(0x1p100, 0x1p100), complex(0x1p100, -0x1p100), bitsZero, bitsOne},
		{complex(0x1p100, 0), complex(0x1p-100, 0), bitsInf, bitsZero},
		{complex(-1, 0), complex(1, 0), 0xbf800000, bitsZero},
		{complex(0, -1), complex(1, 0), bitsZero, 0xbf800000},
		{complex(1, 0), 0, bitsNaN, bitsNaN}, // both are 0 / 0
		{0, 0, bitsNaN, bitsNaN},
		{complex(5, -7), pair(bitsMinus, bitsMinus), bitsNaN, bitsNaN},
		{complex(1, 0), pair(bitsInf, bitsZero), bitsNaN, bitsNaN},
		{pair(bitsInf, bitsZero), complex(1, 0), bitsInf, bitsNaN},
		{pair(bitsInf, bitsInf), complex(1, 0), bitsNaN, bitsNaN},
		{complex(1, 0), pair(bitsNaN, bitsZero), bitsNaN, bitsNaN},
	} {
		isComplex(t, fmt.Sprintf("QuotientOf(%x, %x)", c.x, c.y), impl.QuotientOf(c.x, c.y), c.re, c.im)
	}
}

func TestRootNumber(t *testing.T) {
	for _, c := range []struct{ bits, want uint32 }{
		{0x41100000, 0x40400000},
		{0x40000000, 0x3fb504f3},
		{0x40400000, 0x3fddb3d7},
		{bitsZero, bitsZero},
		{bitsMinus, bitsMinus},
		{bitsLeast, 0x1a3504f3},
		{bitsLastSub, 0x1fffffff},
		{bitsMost, 0x5f7fffff},
		{bitsInf, bitsInf},
		{bitsNegInf, bitsNaN},
		{0x80000001, bitsNaN},
		{0xbf800000, bitsNaN},
		{bitsNaN, bitsNaN},
		{bitsNegNaN, bitsNaN},
	} {
		isNumber(t, fmt.Sprintf("RootNumber(%08x)", c.bits), impl.RootNumber(number(c.bits)), c.want)
	}
}
