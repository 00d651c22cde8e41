package tests

import (
	"fmt"
	"testing"

	"loop.example/g01393/impl"
)

func TestSumNumbers(t *testing.T) {
	for _, c := range []struct {
		list []float32
		want uint32
	}{
		{nil, bitsZero},
		{[]float32{}, bitsZero},
		{[]float32{1, 2, 3.5}, 0x40d00000},
		{[]float32{number(bitsMinus)}, bitsZero}, // it begins with +0
		{[]float32{number(bitsMinus), number(bitsMinus)}, bitsZero},
		{[]float32{number(bitsLeast), number(bitsLeast)}, 2},
		{[]float32{0x1p24, 1, 1}, 0x4b800000}, // each sum is rounded, ties to even
		{[]float32{1, 1, 0x1p24}, 0x4b800001},
		{[]float32{0x1p24 + 2, 1}, 0x4b800002},
		{[]float32{1e8, 1, -1e8}, bitsZero}, // from left to right
		{[]float32{1e8, -1e8, 1}, bitsOne},
		{[]float32{number(bitsMost), number(bitsMost), -number(bitsMost)}, bitsInf},
		{[]float32{number(bitsInf), 1}, bitsInf},
		{[]float32{number(bitsInf), number(bitsNegInf)}, bitsNaN},
		{[]float32{1, number(bitsNegNaN), 1}, bitsNaN},
	} {
		got, ok := impl.SumNumbers(c.list)
		isTrue(t, fmt.Sprintf("SumNumbers(%v)", c.list), ok)
		isNumber(t, fmt.Sprintf("SumNumbers(%v)", c.list), got, c.want)
	}
}

func TestDotNumbers(t *testing.T) {
	for _, c := range []struct {
		a, b []float32
		want uint32
	}{
		{nil, nil, bitsZero},
		{nil, []float32{}, bitsZero},
		{[]float32{1, 2}, []float32{3, 4}, 0x41300000},
		{[]float32{-1}, []float32{0}, bitsZero},
		// a product is rounded before it is added: 2^-24 is lost
		{[]float32{-0x1.002p0, 0x1.001p0}, []float32{1, 0x1.001p0}, bitsZero},
		{[]float32{1e8, 1, -1e8}, []float32{1, 1, 1}, bitsZero},
		{[]float32{0x1p100, 1}, []float32{0x1p100, 1}, bitsInf},
		{[]float32{0x1p100, -0x1p100}, []float32{0x1p100, 0x1p100}, bitsNaN},
		{[]float32{0x1p-100}, []float32{0x1p-100}, bitsZero},
		{[]float32{number(bitsInf)}, []float32{0}, bitsNaN},
	} {
		got, ok := impl.DotNumbers(c.a, c.b)
		what := fmt.Sprintf("DotNumbers(%v, %v)", c.a, c.b)
		isTrue(t, what, ok)
		isNumber(t, what, got, c.want)
	}
}

func TestSumComplex(t *testing.T) {
	for _, c := range []struct {
		list   []complex64
		re, im uint32
	}{
		{nil, bitsZero, bitsZero},
		{[]complex64{1, complex(2, 3)}, 0x40400000, 0x40400000},
		{[]complex64{pair(bitsMinus, bitsMinus)}, bitsZero, bitsZero},
		{[]complex64{complex(0x1p24, 1), complex(1, 1), complex(1, 0x1p24)}, 0x4b800000, 0x4b800001},
		{[]complex64{complex(1e8, 1e8), complex(1, -1e8), complex(-1e8, 1)}, bitsZero, bitsOne},
		{[]complex64{pair(bitsInf, bitsOne), pair(bitsNegInf, bitsOne)}, bitsNaN, 0x40000000},
		{[]complex64{pair(bitsOne, bitsNaN), complex(1, 1)}, 0x40000000, bitsNaN},
	} {
		got, ok := impl.SumComplex(c.list)
		isTrue(t, fmt.Sprintf("SumComplex(%v)", c.list), ok)
		isComplex(t, fmt.Sprintf("SumComplex(%v)", c.list), got, c.re, c.im)
	}
}

func TestDotComplex(t *testing.T) {
	i := complex64(complex(0, 1))
	for _, c := range []struct {
		a, b         []complex64
		re, im       uint32
		conRe, conIm uint32 // of DotConjugate
	}{
		{nil, []complex64{}, bitsZero, bitsZero, bitsZero, bitsZero},
		{[]complex64{i}, []complex64{i}, 0xbf800000, bitsZero, bitsOne, bitsZero},
		{[]complex64{i}, []complex64{1}, bitsZero, bitsOne, bitsZero, 0xbf800000},
		{[]complex64{1}, []complex64{i}, bitsZero, bitsOne, bitsZero, bitsOne},
		{[]complex64{complex(1, 2), 2}, []complex64{complex(3, -1), i}, 0x40a00000, 0x40e00000, bitsOne, 0xc0a00000},
		// the products are narrowed one by one: 2^-24 is lost
		{[]complex64{-0x1.002p0, 0x1.001p0}, []complex64{1, 0x1.001p0}, bitsZero, bitsZero, bitsZero, bitsZero},
		{[]complex64{0x1p12, 1, 1}, []complex64{0x1p12, 1, 1}, 0x4b800000, bitsZero, 0x4b800000, bitsZero},
		{[]complex64{1e8, 1, -1e8}, []complex64{1, 1, 1}, bitsZero, bitsZero, bitsZero, bitsZero},
		// each product is exact in 64-bit numbers: 2^200 - 2^200 is 0
		{[]complex64{complex(0x1p100, 0x1p100)}, []complex64{complex(0x1p100, 0x1p100)}, bitsZero, bitsInf, bitsInf, bitsZero},
		{[]complex64{pair(bitsNaN, bitsZero)}, []complex64{1}, bitsNaN, bitsNaN, bitsNaN, bitsNaN},
	} {
		what := fmt.Sprintf("(%v, %v)", c.a, c.b)
		got, ok := impl.DotComplex(c.a, c.b)
		isTrue(t, "DotComplex"+what, ok)
		isComplex(t, "DotComplex"+what, got, c.re, c.im)
		got, ok = impl.DotConjugate(c.a, c.b)
		isTrue(t, "DotConjugate"+what, ok)
		isComplex(t, "DotConjugate"+what, got, c.conRe, c.conIm)
	}
}

func TestPowersOf(t *testing.T) {
	for _, c := range []struct {
		list []complex64
		want uint32
	}{
		{nil, bitsZero},
		{[]complex64{complex(3, 4), 1}, 0x41d00000},
		{[]complex64{pair(bitsMinus, bitsMinus)}, bitsZero},
		{[]complex64{0x1p12, 1, 1}, 0x4b800001},    // 2^24 + 2: the sum is a 64-bit one
		{[]complex64{0x1p-75, 0x1p-75}, bitsLeast}, // each power alone narrows to 0
		{[]complex64{0x1p100, 0x1p-100, 1}, bitsInf},
		// from left to right, where each 1 is lost, and from right to left, where both are not
		{[]complex64{complex(0x1p26, 0x1p26), complex(0x1p14, 0x1p14), 1, 1}, 0x5a000000},
		{[]complex64{1, 1, complex(0x1p14, 0x1p14), complex(0x1p26, 0x1p26)}, 0x5a000001},
		{[]complex64{pair(bitsInf, bitsZero)}, bitsInf},
		{[]complex64{pair(bitsNegInf, bitsNaN)}, bitsNaN},
	} {
		got, ok := impl.PowersOf(c.list)
		isTrue(t, fmt.Sprintf("PowersOf(%v)", c.list), ok)
		isNumber(t, fmt.Sprintf("PowersOf(%v)", c.list), got, c.want)
	}
}

func TestSumsOfLongLists(t *testing.T) {
	numbers, ones := make([]float32, 257), make([]complex64, 257)
	for i := range numbers {
		numbers[i], ones[i] = 1, 1
	}
	for _, n := range []int{255, 256, 257} {
		want, fits := uint32(bitsZero), n <= 256
		if fits {
			want = bitsOf(float32(n))
		}
		check := func(what string, got float32, ok bool) {
			t.Helper()
			if ok != fits {
				t.Errorf("%s of %d: got %v, want %v", what, n, ok, fits)
			}
			isNumber(t, fmt.Sprint(what, " of ", n), got, want)
		}
		x, ok := impl.SumNumbers(numbers[:n])
		check("SumNumbers", x, ok)
		x, ok = impl.DotNumbers(numbers[:n], numbers[:n])
		check("DotNumbers", x, ok)
		x, ok = impl.PowersOf(ones[:n])
		check("PowersOf", x, ok)
		z, ok := impl.SumComplex(ones[:n])
		check("SumComplex", real(z), ok)
		z, ok = impl.DotComplex(ones[:n], ones[:n])
		check("DotComplex", real(z), ok)
		z, ok = impl.DotConjugate(ones[:n], ones[:n])
		check("DotConjugate", real(z), ok)
	}
}

func TestDotsOfOtherLengths(t *testing.T) {
	numbers, list := []float32{1, 2, 3}, []complex64{1, 2, 3}
	for _, c := range [][2]int{{0, 1}, {1, 0}, {2, 3}, {3, 2}} {
		x, ok := impl.DotNumbers(numbers[:c[0]], numbers[:c[1]])
		isFalse(t, fmt.Sprint("DotNumbers of ", c), ok)
		isNumber(t, "DotNumbers", x, bitsZero)
		z, ok := impl.DotComplex(list[:c[0]], list[:c[1]])
		isFalse(t, fmt.Sprint("DotComplex of ", c), ok)
		isComplex(t, "DotComplex", z, bitsZero, bitsZero)
		z, ok = impl.DotConjugate(list[:c[0]], list[:c[1]])
		isFalse(t, fmt.Sprint("DotConjugate of ", c), ok)
		isComplex(t, "DotConjugate", z, bitsZero, bitsZero)
	}
}
