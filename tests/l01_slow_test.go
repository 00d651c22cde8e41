package tests

import (
	"math"
	"math/big"
)

// plus, minus, times and over are operations on 64-bit numbers, rounded once.

func big64(x float64) *big.Float { return new(big.Float).SetPrec(53).SetFloat64(x) }

func plain(x *big.Float) float64 {
	f, _ := x.Float64()
	return f
}

func plus(a, b float64) float64  { return plain(big64(0).Add(big64(a), big64(b))) }
func minus(a, b float64) float64 { return plain(big64(0).Sub(big64(a), big64(b))) }
func times(a, b float64) float64 { return plain(big64(0).Mul(big64(a), big64(b))) }
func over(a, b float64) float64  { return plain(big64(0).Quo(big64(a), big64(b))) }

func finite(x float32) bool { return math.Abs(float64(x)) <= math.MaxFloat32 }

func slowFraction(turns float64) float64 {
	f := minus(turns, math.Trunc(turns))
	if f < 0 {
		f = plus(f, 1)
	}
	return f
}

func slowSine(turns float64) float64 {
	f, sign := slowFraction(turns), 1.0
	if f >= 0.5 {
		f, sign = minus(f, 0.5), -1
	}
	if f > 0.25 {
		f = minus(0.5, f)
	}
	z := times(f, 6.283185307179586)
	u, p := times(z, z), 1.0
	for k := 8.0; k >= 1; k-- {
		p = minus(1, over(times(u, p), 2*k*(2*k+1)))
	}
	return sign * times(z, p)
}

func slowPhasor(turns float64) (float32, float32) {
	f, q := slowFraction(turns), 0
	for f >= 0.25 {
		f, q = minus(f, 0.25), q+1
	}
	c, s := slowSine(minus(0.25, f)), slowSine(f)
	for range q { // each quarter is a product with i
		c, s = 0-s, c
	}
	return float32(c), float32(s)
}

func slowAngle(y, x float64) float64 {
	a, b := math.Abs(y), math.Abs(x)
	t := over(min(a, b), max(a, b))
	for range 3 {
		t = over(t, plus(1, math.Sqrt(plus(1, times(t, t)))))
	}
	u, p := times(t, t), 0.0
	for k := 15.0; k >= 1; k -= 2 {
		p = minus(over(1, k), times(u, p))
	}
	angle := over(times(8, times(t, p)), 6.283185307179586)
	if a > b {
		angle = minus(0.25, angle)
	}
	if x < 0 {
		angle = minus(0.5, angle)
	}
	return math.Copysign(angle, y)
}

func slowLog(number float64) float64 {
	x, e := math.Frexp(number) // from 0.5 to less than 1
	if x < 0.75 {
		x, e = 2*x, e-1
	}
	s := over(minus(x, 1), plus(x, 1))
	u, q := times(s, s), 0.0
	for k := 25.0; k >= 1; k -= 2 {
		q = plus(over(1, k), times(u, q))
	}
	return plus(times(2, times(s, q)), times(float64(e), 0.6931471805599453))
}

func slowExp(x float64) float64 {
	t, p := over(x, 256), 1.0
	for k := 12.0; k >= 1; k-- {
		p = plus(1, over(times(t, p), k))
	}
	for range 8 {
		p = times(p, p)
	}
	return p
}
