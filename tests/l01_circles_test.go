package tests

import (
	"fmt"
	"math"
	"testing"

	"loop.example/g01393/impl"
)

func TestSineTurns(t *testing.T) {
	for _, c := range []struct{ bits, want uint32 }{
		{bitsZero, bitsZero},
		{bitsMinus, bitsMinus},
		{bitsLeast, 0x00000006},
		{0x80000001, bitsMinus}, // the part of a turn is rounded to 1
		{0xa0000000, bitsMinus},
		{bitsLastSub, 0x01c90fd9},
		{0x3dcccccd, 0x3f167918},
		{0x3daaaaab, 0x3f000000}, // a twelfth
		{0xbdaaaaab, 0xbf000000},
		{0x3e2aaaab, 0x3f5db3d8},
		{0x3e800000, bitsOne}, // quarters
		{0x3f000000, bitsMinus},
		{0x3f400000, 0xbf800000},
		{bitsOne, bitsZero},
		{0xbe800000, 0xbf800000},
		{0xbf000000, bitsMinus},
		{0xbf400000, bitsOne},
		{0xbf800000, bitsZero},
		{0x3effffff, 0x34490fdb},
		{0x3f000001, 0xb4c90fdb},
		{0x41c40000, bitsMinus},
		{0x41c20000, bitsOne}, // 24.25
		{0x4a800002, bitsZero},
		{0x4a800001, bitsMinus}, // 2^22 + 0.5
		{0x59800000, bitsZero},  // 2^52
		{0xd9800000, bitsZero},
		{0xd97fffff, bitsZero},
		{bitsMost, bitsZero},
		{0xff7fffff, bitsZero},
		{bitsInf, bitsNaN},
		{bitsNegInf, bitsNaN},
		{bitsNaN, bitsNaN},
		{bitsNegNaN, bitsNaN},
	} {
		isNumber(t, fmt.Sprintf("SineTurns(%08x)", c.bits), impl.SineTurns(number(c.bits)), c.want)
	}
}

func TestPhasorOf(t *testing.T) {
	for _, c := range []struct {
		turns  float64
		re, im uint32
	}{
		{0, bitsOne, bitsZero},
		{math.Copysign(0, -1), bitsOne, bitsMinus},
		{0.125, 0x3f3504f3, 0x3f3504f3},
		{0.25, bitsZero, bitsOne},
		{0.375, 0xbf3504f3, 0x3f3504f3},
		{0.5, 0xbf800000, bitsZero},
		{0.625, 0xbf3504f3, 0xbf3504f3},
		{0.75, bitsZero, 0xbf800000},
		{0.875, 0x3f3504f3, 0xbf3504f3},
		{1, bitsOne, bitsZero},
		{-1, bitsOne, bitsZero},
		{-0.125, 0x3f3504f3, 0xbf3504f3},
		{-0.25, bitsZero, 0xbf800000},
		{1.0 / 3, 0xbf000000, 0x3f5db3d7},
		{-1e-20, bitsOne, bitsZero}, // four quarters: the part of a turn is rounded to 1
		{-1e-17, bitsOne, bitsZero},
		{-math.SmallestNonzeroFloat64, bitsOne, bitsZero},
		{math.SmallestNonzeroFloat64, bitsOne, bitsZero},
		{0x1.fffffffffffffp51, 0xbf800000, bitsZero}, // 2^52 - 0.5
		{-0x1.fffffffffffffp51, 0xbf800000, bitsZero},
		{0x1.fffffffffffffp50, bitsZero, 0xbf800000}, // 2^51 - 0.25
		{0x1p52, bitsOne, bitsZero},
		{-0x1p52, bitsOne, bitsZero},
		{math.MaxFloat64, bitsOne, bitsZero},
		{math.Inf(1), bitsNaN, bitsNaN},
		{math.Inf(-1), bitsNaN, bitsNaN},
		{math.NaN(), bitsNaN, bitsNaN},
		{math.Float64frombits(0xfff0000000000001), bitsNaN, bitsNaN},
	} {
		isComplex(t, fmt.Sprintf("PhasorOf(%x)", c.turns), impl.PhasorOf(c.turns), c.re, c.im)
	}
}

func TestAngleTurns(t *testing.T) {
	const minusOne = 0xbf800000
	for _, c := range []struct{ y, x, want uint32 }{
		{bitsZero, bitsZero, bitsZero},
		{bitsMinus, bitsZero, bitsZero},
		{bitsZero, bitsMinus, bitsZero},
		{bitsMinus, bitsMinus, bitsZero},
		{bitsOne, bitsZero, 0x3e800000},
		{bitsOne, bitsMinus, 0x3e800000},
		{minusOne, bitsZero, 0xbe800000},
		{bitsZero, bitsOne, bitsZero},
		{bitsMinus, bitsOne, bitsZero},
		{bitsZero, minusOne, 0x3f000000},
		{bitsMinus, minusOne, 0x3f000000},
		{bitsOne, bitsOne, 0x3e000000},
		{bitsOne, minusOne, 0x3ec00000},
		{minusOne, minusOne, 0xbec00000},
		{minusOne, bitsOne, 0xbe000000},
		{0x40400000, 0x40800000, 0x3dd1bfae}, // 3 and 4
		{bitsLeast, bitsLeast, 0x3e000000},
		{bitsLeast, bitsMost, bitsZero},
		{0x80000001, bitsMost, bitsMinus},
		{0x80000001, 0xff7fffff, 0xbf000000},
		{bitsMost, bitsLeast, 0x3e800000},
		{bitsInf, bitsOne, bitsNaN},
		{bitsOne, bitsInf, bitsNaN},
		{bitsZero, bitsNegInf, bitsNaN},
		{bitsNaN, bitsZero, bitsNaN},
		{bitsZero, bitsNegNaN, bitsNaN},
	} {
		what := fmt.Sprintf("(%08x, %08x)", c.y, c.x)
		isNumber(t, "AngleTurns"+what, impl.AngleTurns(number(c.y), number(c.x)), c.want)
		isNumber(t, "AngleOf"+what, impl.AngleOf(pair(c.x, c.y)), c.want)
	}
}

func TestTenthsAndLog(t *testing.T) {
	for _, c := range []struct {
		bits   uint32
		tenths int64
		log    uint32
	}{
		{bitsOne, 0, bitsZero},
		{0x40000000, 30, 0x3f317218},
		{0x41200000, 100, 0x40135d8e},
		{0x42c80000, 200, 0x40935d8e},
		{0x447a0000, 300, 0x40dd0c55},
		{0x40490fdb, 50, 0x3f928683},
		{0x3f000000, -30, 0xbf317218},
		{0x3dcccccd, -100, 0xc0135d8e},
		{0x3f400000, -12, 0xbe934b11}, // 0.75 and 1.5, and what is next to them
		{0x3f3fffff, -12, 0xbe934b13},
		{0x3fc00000, 18, 0x3ecf991f},
		{0x3fbfffff, 18, 0x3ecf991d},
		{0x3f8178d5, 0, 0x3c3b5743}, // half a tenth up and down
		{0x3f817c1c, 1, 0x3c3cf5f8},
		{0x3f7d1245, 0, 0xbc3c8352},
		{0x3f7d0e56, -1, 0xbc3d81fe},
		{bitsLeast, -4485, 0xc2ce8ed0},
		{0x00000002, -4455, 0xc2cd2bec},
		{bitsLastSub, -3793, 0xc2aeac50},
		{bitsNormal, -3793, 0xc2aeac50},
		{bitsMost, 3853, 0x42b17218},
	} {
		what := fmt.Sprintf("(%08x)", c.bits)
		n, ok := impl.TenthsOf(number(c.bits))
		isTrue(t, "TenthsOf"+what, ok)
		if n != c.tenths {
			t.Errorf("TenthsOf%s: got %d, want %d", what, n, c.tenths)
		}
		isNumber(t, "LogNumber"+what, impl.LogNumber(number(c.bits)), c.log)
	}
}

func TestNoTenthsAndNoLog(t *testing.T) {
	for _, c := range []struct{ bits, log uint32 }{
		{bitsZero, bitsNegInf},
		{bitsMinus, bitsNegInf},
		{0x80000001, bitsNaN},
		{0xbf800000, bitsNaN},
		{bitsInf, bitsInf},
		{bitsNegInf, bitsNaN},
		{bitsNaN, bitsNaN},
		{bitsNegNaN, bitsNaN},
	} {
		what := fmt.Sprintf("(%08x)", c.bits)
		n, ok := impl.TenthsOf(number(c.bits))
		isFalse(t, "TenthsOf"+what, ok)
		if n != 0 {
			t.Errorf("TenthsOf%s: got %d, want 0", what, n)
		}
		isNumber(t, "LogNumber"+what, impl.LogNumber(number(c.bits)), c.log)
	}
}

func TestExpNumber(t *testing.T) {
	for _, c := range []struct{ bits, want uint32 }{
		{bitsZero, bitsOne},
		{bitsMinus, bitsOne},
		{bitsLeast, bitsOne},
		{bitsOne, 0x402df854},
		{0xbf800000, 0x3ebc5ab2},
		{0x3f000000, 0x3fd3094c},
		{0x41200000, 0x46ac14ee},
		{0xc2490000, 0x1b35981d},
		{0x42b17217, 0x7f7fff84}, // about 88.72, the last one that is finite
		{0x42b17220, bitsInf},
		{0xc2aeac50, 0x007fffe6},
		{0xc2aecccd, 0x00782140},
		{0xc2cff0a4, bitsLeast}, // about -103.97, the last one that is not 0
		{0xc2cff5c3, bitsZero},
		{0x43480000, bitsInf}, // 200
		{0x43480001, bitsInf},
		{0xc3480000, bitsZero},
		{0xc3480001, bitsZero},
		{bitsMost, bitsInf},
		{0xff7fffff, bitsZero},
		{bitsInf, bitsInf},
		{bitsNegInf, bitsZero},
		{bitsNaN, bitsNaN},
		{bitsNegNaN, bitsNaN},
	} {
		isNumber(t, fmt.Sprintf("ExpNumber(%08x)", c.bits), impl.ExpNumber(number(c.bits)), c.want)
	}
}

// The following tests hold the functions against the same steps, each of which
// is rounded by math/big: no compiler fuses two of them there.

const manyRounds = 3000

func TestSinesStepByStep(t *testing.T) {
	g := lcg(1)
	for range manyRounds {
		x := float64(int64(g.next())-1<<31) / 0x1p30
		isNumber(t, fmt.Sprintf("SineTurns(%x)", float32(x)), impl.SineTurns(float32(x)), bitsOf(float32(slowSine(float64(float32(x))))))
		re, im := slowPhasor(x)
		isComplex(t, fmt.Sprintf("PhasorOf(%x)", x), impl.PhasorOf(x), bitsOf(re), bitsOf(im))
	}
}

func TestAnglesStepByStep(t *testing.T) {
	g := lcg(2)
	for range manyRounds {
		y, x := number(g.bits()), number(g.bits())
		if !finite(x) || !finite(y) || x == 0 || y == 0 {
			continue
		}
		isNumber(t, fmt.Sprintf("AngleTurns(%x, %x)", y, x), impl.AngleTurns(y, x), bitsOf(float32(slowAngle(float64(y), float64(x)))))
	}
}

func TestPowersStepByStep(t *testing.T) {
	g := lcg(3)
	for range manyRounds {
		x := number(g.bits() & 0x7fffffff)
		if finite(x) && x != 0 {
			log := slowLog(float64(x))
			isNumber(t, fmt.Sprintf("LogNumber(%x)", x), impl.LogNumber(x), bitsOf(float32(log)))
			n, _ := impl.TenthsOf(x)
			if want := int64(math.Floor(plus(times(log, 43.42944819032518), 0.5))); n != want {
				t.Errorf("TenthsOf(%x): got %d, want %d", x, n, want)
			}
		}
		x = float32(int64(g.next())-1<<31) / 0x1p24
		isNumber(t, fmt.Sprintf("ExpNumber(%x)", x), impl.ExpNumber(x), bitsOf(float32(slowExp(float64(x)))))
	}
}

// The functions are what their names say, nearly.
func TestCirclesAreNearlyRight(t *testing.T) {
	near := func(what string, got float32, want, most float64) {
		t.Helper()
		if d := math.Abs(float64(got) - want); !(d <= most) {
			t.Errorf("%s: got %v, want about %v", what, got, want)
		}
	}
	for i := -400; i <= 400; i++ {
		x := float32(i) / 97
		z := 2 * math.Pi * float64(x)
		near("sine", impl.SineTurns(x), math.Sin(z), 1e-7)
		p := impl.PhasorOf(float64(x))
		near("real part", real(p), math.Cos(z), 1e-7)
		near("imaginary part", imag(p), math.Sin(z), 1e-7)
		near("angle", impl.AngleTurns(x, 1.5), math.Atan2(float64(x), 1.5)/(2*math.Pi), 1e-7)
		near("angle", impl.AngleTurns(x, -1.5), math.Atan2(float64(x)+0, -1.5)/(2*math.Pi), 1e-7)
		e := impl.ExpNumber(x)
		near("power of e", e/float32(math.Exp(float64(x))), 1, 1e-6)
		near("logarithm", impl.LogNumber(e), float64(x), 1e-6)
	}
}
