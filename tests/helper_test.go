package tests

import (
	"math"
	"testing"
)

// bitsInf and the others are the bits of the numbers that are told in words.
const (
	bitsZero    = 0x00000000
	bitsMinus   = 0x80000000 // -0
	bitsOne     = 0x3f800000
	bitsInf     = 0x7f800000
	bitsNegInf  = 0xff800000
	bitsNaN     = 0x7fc00000
	bitsMost    = 0x7f7fffff // the greatest finite number
	bitsLeast   = 0x00000001 // the least subnormal number
	bitsNormal  = 0x00800000 // the least normal number
	bitsOddNaN  = 0x7f800001
	bitsNegNaN  = 0xffc12345
	bitsLastSub = 0x007fffff // the greatest subnormal number
)

// number returns the number with some bits, without the package under test.
func number(bits uint32) float32 { return math.Float32frombits(bits) }

// bitsOf returns the bits of a number, those of all not-a-numbers being one.
func bitsOf(x float32) uint32 {
	if x != x {
		return bitsNaN
	}
	return math.Float32bits(x)
}

// pair returns the complex number with the bits of both parts.
func pair(re, im uint32) complex64 { return complex(number(re), number(im)) }

// specials has numbers at all edges of the format, and some in between.
func specials() []float32 {
	bits := []uint32{
		bitsZero, bitsMinus, bitsLeast, 0x80000001, bitsLastSub, 0x807fffff,
		bitsNormal, 0x80800000, bitsMost, 0xff7fffff, bitsInf, bitsNegInf,
		bitsNaN, bitsOddNaN, bitsNegNaN, 0xff800001, 0x7fffffff, 0xffffffff,
		bitsOne, 0xbf800000, 0x3e800000, 0xbf000000, 0x3f400000, 0x43480000,
		0xc3480001, 0x59800000, 0xd97fffff, 0x3fc00000, 0xc0000000,
	}
	var list []float32
	for _, b := range bits {
		list = append(list, number(b))
	}
	return list
}

// lcg is a short rule that makes the same bits in each run.
type lcg uint64

func (g *lcg) next() uint64 {
	*g = *g*6364136223846793005 + 1442695040888963407
	return uint64(*g) >> 32
}

// bits returns bits of any number, of which many are near to 1.
func (g *lcg) bits() uint32 {
	b := uint32(g.next())
	if g.next()%2 == 0 {
		return b&0x87ffffff | 0x38000000
	}
	return b
}

func isNumber(t *testing.T, what string, got float32, want uint32) {
	t.Helper()
	if bitsOf(got) != want {
		t.Errorf("%s: got %v (%08x), want %v (%08x)", what, got, bitsOf(got), number(want), want)
	}
}

func isComplex(t *testing.T, what string, got complex64, re, im uint32) {
	t.Helper()
	if bitsOf(real(got)) != re || bitsOf(imag(got)) != im {
		t.Errorf("%s: got %v (%08x %08x), want %08x %08x", what, got, bitsOf(real(got)), bitsOf(imag(got)), re, im)
	}
}

func isTrue(t *testing.T, what string, ok bool) {
	t.Helper()
	if !ok {
		t.Errorf("%s: got false, want true", what)
	}
}

func isFalse(t *testing.T, what string, ok bool) {
	t.Helper()
	if ok {
		t.Errorf("%s: got true, want false", what)
	}
}
