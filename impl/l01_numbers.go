package impl

import (
	"math"
	"strconv"
	"strings"
)

// Limits of chapter 1.
const (
	MaxNumbers = 256
	MaxValue   = 1000000000000000
	MaxItems   = 64
	CheckSize  = 65003
)

const (
	nanBits   = 2143289344 // stands for every not-a-number
	maxBits   = 4294967295
	hexDigits = 8 // in the text of a number
	maxName   = 8
	noneText  = "none"
)

// In this file each product that is added to something is converted to its
// own type first: without that, Go may fuse both operations into one rounding.

// SameNumber reports whether two numbers are the same.
func SameNumber(a, b float32) bool {
	return BitsOf(a) == BitsOf(b)
}

// IsFinite reports whether x is neither an infinity nor a not-a-number.
func IsFinite(x float32) bool {
	return !isNaN(x) && !math.IsInf(float64(x), 0)
}

// BitsOf returns the bits of x, and the same ones for each not-a-number.
func BitsOf(x float32) int64 {
	if isNaN(x) {
		return nanBits
	}
	return int64(math.Float32bits(x))
}

// FromBits returns the number with the given bits.
func FromBits(n int64) (float32, bool) {
	if n < 0 || n > maxBits {
		return 0, false
	}
	return math.Float32frombits(uint32(n)), true
}

// NarrowNumber returns the 32-bit number nearest to x.
func NarrowNumber(x float64) float32 {
	return float32(x)
}

// IsSubnormal reports whether x is subnormal.
func IsSubnormal(x float32) bool {
	return x != 0 && math.Abs(float64(x)) < 0x1p-126
}

// FlushNumber returns x, but a zero with its sign if it is subnormal.
func FlushNumber(x float32) float32 {
	if IsSubnormal(x) {
		return float32(math.Copysign(0, float64(x)))
	}
	return x
}

func isNaN(x float32) bool {
	return math.IsNaN(float64(x))
}

func notANumber() float32 {
	return math.Float32frombits(nanBits)
}

// SameComplex reports whether two complex numbers are the same.
func SameComplex(a, b complex64) bool {
	return SameNumber(real(a), real(b)) && SameNumber(imag(a), imag(b))
}

// IsFiniteComplex reports whether both parts of x are finite.
func IsFiniteComplex(x complex64) bool {
	return IsFinite(real(x)) && IsFinite(imag(x))
}

// NarrowComplex returns x with both parts narrowed.
func NarrowComplex(x complex128) complex64 {
	return complex(NarrowNumber(real(x)), NarrowNumber(imag(x)))
}

// MulComplex returns the product of x and y.
func MulComplex(x, y complex64) complex64 {
	return NarrowComplex(wideProduct(x, y))
}

// ScaleComplex returns the product of x and a number.
func ScaleComplex(x complex64, by float32) complex64 {
	return complex(real(x)*by, imag(x)*by)
}

// ConjugateOf returns the conjugate of x.
func ConjugateOf(x complex64) complex64 {
	return complex(real(x), -imag(x))
}

// PowerOf returns the power of x.
func PowerOf(x complex64) float32 {
	return NarrowNumber(widePower(x))
}

// LongOf returns the square root of the power of x.
func LongOf(x complex64) float32 {
	return NarrowNumber(math.Sqrt(widePower(x)))
}

// QuotientOf returns the quotient of x and y.
func QuotientOf(x, y complex64) complex64 {
	product, power := wideProduct(x, ConjugateOf(y)), widePower(y)
	return NarrowComplex(complex(real(product)/power, imag(product)/power))
}

// wideProduct returns the product of x and y with 64-bit parts. It spells the
// parts out, as Go's own product of complex64 rounds to 32 bits in between.
func wideProduct(x, y complex64) complex128 {
	a, b := float64(real(x)), float64(imag(x))
	c, d := float64(real(y)), float64(imag(y))
	return complex(float64(a*c)-float64(b*d), float64(a*d)+float64(b*c))
}

// widePower returns the power of x as a 64-bit number.
func widePower(x complex64) float64 {
	a, b := float64(real(x)), float64(imag(x))
	return float64(a*a) + float64(b*b)
}

// RootNumber returns the square root of x.
func RootNumber(x float32) float32 {
	return NarrowNumber(math.Sqrt(float64(x)))
}

// SineTurns returns the sine of x turns.
func SineTurns(x float32) float32 {
	if !IsFinite(x) {
		return notANumber()
	}
	if tooManyTurns(float64(x)) {
		return 0
	}
	return NarrowNumber(sineOf(float64(x)))
}

// PhasorOf returns the number on the unit circle at some turns.
func PhasorOf(turns float64) complex64 {
	if math.IsNaN(turns) || math.IsInf(turns, 0) {
		return complex(notANumber(), notANumber())
	}
	if tooManyTurns(turns) {
		return 1
	}
	f, quarters := fractionOf(turns), 0
	for f >= 0.25 {
		f -= 0.25
		quarters++
	}
	c, s := sineOf(0.25-f), sineOf(f)
	switch quarters {
	case 1:
		return NarrowComplex(complex(0-s, c))
	case 2:
		return NarrowComplex(complex(0-c, 0-s))
	case 3:
		return NarrowComplex(complex(s, 0-c))
	}
	return NarrowComplex(complex(c, s))
}

// AngleOf returns the angle of x in turns.
func AngleOf(x complex64) float32 {
	return AngleTurns(imag(x), real(x))
}

// AngleTurns returns the angle of the point (x, y) in turns.
func AngleTurns(y, x float32) float32 {
	if !IsFinite(x) || !IsFinite(y) {
		return notANumber()
	}
	if x == 0 && y == 0 {
		return 0
	}
	a, b := math.Abs(float64(y)), math.Abs(float64(x))
	var angle float64
	if a > b {
		angle = 0.25 - arcOf(b/a)
	} else {
		angle = arcOf(a / b)
	}
	if x < 0 {
		angle = 0.5 - angle
	}
	if y < 0 {
		angle = -angle
	}
	return NarrowNumber(angle)
}

// tooManyTurns reports whether turns are so many that they have no places
// behind the point.
func tooManyTurns(turns float64) bool {
	return math.Abs(turns) >= 1<<52
}

// fractionOf returns turns without the whole ones, 1 at most. The detour over
// an integer takes away +0, never -0, so that -0 keeps its sign.
func fractionOf(turns float64) float64 {
	f := turns - float64(int64(turns))
	if f < 0 {
		f += 1
	}
	return f
}

// sineOf returns the sine of turns that are not too many.
func sineOf(turns float64) float64 {
	f := fractionOf(turns)
	turned := f >= 0.5
	if turned {
		f -= 0.5
	}
	if f > 0.25 {
		f = 0.5 - f
	}
	z := float64(f * fullTurn())
	u := float64(z * z)
	p := 1.0
	for k := 8; k >= 1; k-- {
		p = 1 - float64(u*p)/float64(2*k*(2*k+1))
	}
	sine := float64(z * p)
	if turned {
		return -sine
	}
	return sine
}

// arcOf returns the turns whose tangent is t, from 0 to 1.
func arcOf(t float64) float64 {
	for range 3 {
		t = t / (1 + math.Sqrt(1+float64(t*t)))
	}
	u := float64(t * t)
	p := 0.0
	for k := 15; k >= 1; k -= 2 {
		p = 1/float64(k) - float64(u*p)
	}
	return float64(8*float64(t*p)) / fullTurn()
}

// fullTurn returns the length of the unit circle.
func fullTurn() float64 {
	return 6.283185307179586
}

// TenthsOf returns the tenths of decibels of a power.
func TenthsOf(power float32) (int64, bool) {
	if !IsFinite(power) || power <= 0 {
		return 0, false
	}
	tenths := float64(logOf(power) * 43.42944819032518)
	return int64(math.Floor(tenths + 0.5)), true
}

// LogNumber returns the natural logarithm of x.
func LogNumber(x float32) float32 {
	switch {
	case isNaN(x) || x < 0:
		return notANumber()
	case x == 0:
		return float32(math.Inf(-1))
	case math.IsInf(float64(x), 1):
		return x
	}
	return NarrowNumber(logOf(x))
}

// logOf returns the natural logarithm of a finite number greater than 0.
func logOf(number float32) float64 {
	x, e := float64(number), 0
	for x >= 1.5 {
		x /= 2
		e++
	}
	for x < 0.75 {
		x *= 2
		e--
	}
	s := (x - 1) / (x + 1)
	u := float64(s * s)
	q := 0.0
	for k := 25; k >= 1; k -= 2 {
		q = 1/float64(k) + float64(u*q)
	}
	return float64(2*float64(s*q)) + float64(float64(e)*0.6931471805599453)
}

// ExpNumber returns e to the power of x.
func ExpNumber(x float32) float32 {
	if x > 200 {
		return float32(math.Inf(1))
	}
	if x < -200 {
		return 0
	}
	t := float64(x) / 256
	p := 1.0
	for k := 12; k >= 1; k-- {
		p = 1 + float64(t*p)/float64(k)
	}
	for range 8 {
		p = float64(p * p)
	}
	return NarrowNumber(p)
}

// SumNumbers returns the sum of a list from left to right.
func SumNumbers(list []float32) (float32, bool) {
	if len(list) > MaxNumbers {
		return 0, false
	}
	var sum float32
	for _, x := range list {
		sum += x
	}
	return sum, true
}

// DotNumbers returns the sum of the products of two lists.
func DotNumbers(a, b []float32) (float32, bool) {
	if len(a) != len(b) || len(a) > MaxNumbers {
		return 0, false
	}
	var sum float32
	for i, x := range a {
		sum += float32(x * b[i])
	}
	return sum, true
}

// SumComplex returns the sum of a list from left to right.
func SumComplex(list []complex64) (complex64, bool) {
	if len(list) > MaxNumbers {
		return 0, false
	}
	var sum complex64
	for _, x := range list {
		sum += x
	}
	return sum, true
}

// DotComplex returns the sum of the products of two lists.
func DotComplex(a, b []complex64) (complex64, bool) {
	if len(a) != len(b) || len(a) > MaxNumbers {
		return 0, false
	}
	var sum complex64
	for i, x := range a {
		sum += MulComplex(x, b[i])
	}
	return sum, true
}

// DotConjugate returns the sum of the products of the conjugates of a and b.
func DotConjugate(a, b []complex64) (complex64, bool) {
	if len(a) != len(b) || len(a) > MaxNumbers {
		return 0, false
	}
	var sum complex64
	for i, x := range a {
		sum += MulComplex(ConjugateOf(x), b[i])
	}
	return sum, true
}

// PowersOf returns the sum of the powers of a list.
func PowersOf(list []complex64) (float32, bool) {
	if len(list) > MaxNumbers {
		return 0, false
	}
	sum := 0.0
	for _, x := range list {
		sum += widePower(x)
	}
	return NarrowNumber(sum), true
}

// NumbersText returns the text of numbers.
func NumbersText(list []float32) (string, bool) {
	if len(list) > MaxNumbers {
		return "", false
	}
	var parts []string
	for _, x := range list {
		parts = append(parts, hexText(x))
	}
	return joinParts(parts), true
}

// ReadNumbers returns the numbers with the given text.
func ReadNumbers(s string) ([]float32, bool) {
	parts, ok := splitParts(s, MaxNumbers)
	if !ok {
		return nil, false
	}
	var list []float32
	for _, part := range parts {
		x, ok := readHex(part)
		if !ok {
			return nil, false
		}
		list = append(list, x)
	}
	return list, true
}

// ComplexText returns the text of complex numbers.
func ComplexText(list []complex64) (string, bool) {
	if len(list) > MaxNumbers {
		return "", false
	}
	var parts []string
	for _, x := range list {
		parts = append(parts, hexText(real(x))+hexText(imag(x)))
	}
	return joinParts(parts), true
}

// ReadComplex returns the complex numbers with the given text.
func ReadComplex(s string) ([]complex64, bool) {
	parts, ok := splitParts(s, MaxNumbers)
	if !ok {
		return nil, false
	}
	var list []complex64
	for _, part := range parts {
		if len(part) != 2*hexDigits {
			return nil, false
		}
		re, one := readHex(part[:hexDigits])
		im, two := readHex(part[hexDigits:])
		if !one || !two {
			return nil, false
		}
		list = append(list, complex(re, im))
	}
	return list, true
}

// IsName reports whether s is a name.
func IsName(s string) bool {
	if len(s) < 1 || len(s) > maxName {
		return false
	}
	for _, r := range s {
		if r < 'a' || r > 'z' {
			return false
		}
	}
	return true
}

// Decimal returns n in decimal.
func Decimal(n int64) string {
	return strconv.FormatInt(n, 10)
}

// ReadDecimal returns the number with the given decimal text.
func ReadDecimal(s string) (int64, bool) {
	n, err := strconv.ParseInt(s, 10, 64)
	// ParseInt also takes texts that Decimal never returns, like +1 and 01.
	if err != nil || !isItem(n) || Decimal(n) != s {
		return 0, false
	}
	return n, true
}

// ListText returns the text of a list of integers.
func ListText(list []int64) (string, bool) {
	if len(list) > MaxItems {
		return "", false
	}
	var parts []string
	for _, n := range list {
		if !isItem(n) {
			return "", false
		}
		parts = append(parts, Decimal(n))
	}
	return joinParts(parts), true
}

// ReadList returns the list of integers with the given text.
func ReadList(s string) ([]int64, bool) {
	parts, ok := splitParts(s, MaxItems)
	if !ok {
		return nil, false
	}
	var list []int64
	for _, part := range parts {
		n, ok := ReadDecimal(part)
		if !ok {
			return nil, false
		}
		list = append(list, n)
	}
	return list, true
}

// CheckOf returns the check number of the bytes of s, going on from start.
func CheckOf(start int64, s string) (int64, bool) {
	if start < 0 || start >= CheckSize {
		return 0, false
	}
	check := start
	for i := range len(s) {
		check = (971*check + int64(s[i]) + 229) % CheckSize
	}
	return check, true
}

// isItem reports whether n is a number that texts of integers can have.
func isItem(n int64) bool {
	return n >= -MaxValue && n <= MaxValue
}

// joinParts returns the text of a list, of which the texts of its members are
// given.
func joinParts(parts []string) string {
	if len(parts) == 0 {
		return noneText
	}
	return strings.Join(parts, ",")
}

// splitParts returns the texts of the members, at most most, of a list with
// the given text.
func splitParts(s string, most int) ([]string, bool) {
	if s == noneText {
		return nil, true
	}
	if strings.Count(s, ",") >= most {
		return nil, false
	}
	return strings.Split(s, ","), true
}

// hexText returns the digits of the bits of x.
func hexText(x float32) string {
	digits := strconv.FormatInt(BitsOf(x), 16)
	return strings.Repeat("0", hexDigits-len(digits)) + digits
}

// readHex returns the number whose hexText is s. Of the bits of the
// not-a-numbers there is a text only for those that BitsOf returns.
func readHex(s string) (float32, bool) {
	if len(s) != hexDigits {
		return 0, false
	}
	var bits int64
	for _, r := range s {
		digit, ok := hexDigit(r)
		if !ok {
			return 0, false
		}
		bits = bits*16 + digit
	}
	x, ok := FromBits(bits)
	if !ok || BitsOf(x) != bits {
		return 0, false
	}
	return x, true
}

// hexDigit returns the value of a lower-case hexadecimal digit.
func hexDigit(r rune) (int64, bool) {
	switch {
	case r >= '0' && r <= '9':
		return int64(r - '0'), true
	case r >= 'a' && r <= 'f':
		return int64(r-'a') + 10, true
	}
	return 0, false
}
