package impl

import (
	"math"
	"strconv"
	"strings"
)

// Limits of chapter 1.
const (
	MaxNumbers = 256
	MaxValue   = 1000000000000000
	MaxItems   = 64
	CheckSize  = 65003
)

// A product is converted to its own type wherever something is added to it or
// taken from it: without that, Go allows a machine to round both only once.

// SameNumber reports whether two numbers are the same.
func SameNumber(a, b float32) bool { return BitsOf(a) == BitsOf(b) }

// IsFinite reports whether x is finite.
func IsFinite(x float32) bool { return math.Abs(float64(x)) <= math.MaxFloat32 }

// BitsOf returns the bits of a number.
func BitsOf(x float32) int64 {
	if x != x {
		return 0x7fc00000
	}
	return int64(math.Float32bits(x))
}

// FromBits returns the number with the given bits.
func FromBits(n int64) (float32, bool) {
	if n < 0 || n > math.MaxUint32 {
		return 0, false
	}
	return math.Float32frombits(uint32(n)), true
}

// NarrowNumber returns the nearest 32-bit number.
func NarrowNumber(x float64) float32 { return float32(x) }

// IsSubnormal reports whether x is subnormal.
func IsSubnormal(x float32) bool {
	return x != 0 && math.Abs(float64(x)) < 0x1p-126
}

// FlushNumber returns x, but a zero if it is subnormal.
func FlushNumber(x float32) float32 {
	if IsSubnormal(x) {
		return float32(math.Copysign(0, float64(x)))
	}
	return x
}

// SameComplex reports whether two complex numbers are the same.
func SameComplex(a, b complex64) bool {
	return SameNumber(real(a), real(b)) && SameNumber(imag(a), imag(b))
}

// IsFiniteComplex reports whether both parts are finite.
func IsFiniteComplex(x complex64) bool { return IsFinite(real(x)) && IsFinite(imag(x)) }

// NarrowComplex returns a number with narrowed parts.
func NarrowComplex(x complex128) complex64 {
	return complex(float32(real(x)), float32(imag(x)))
}

// wideProduct returns the product of complex numbers before it is narrowed.
func wideProduct(x, y complex64) complex128 {
	a, b := float64(real(x)), float64(imag(x))
	c, d := float64(real(y)), float64(imag(y))
	return complex(float64(a*c)-float64(b*d), float64(a*d)+float64(b*c))
}

// widePower returns the power of a complex number before it is narrowed.
func widePower(x complex64) float64 {
	a, b := float64(real(x)), float64(imag(x))
	return float64(a*a) + float64(b*b)
}

// MulComplex returns a product.
func MulComplex(x, y complex64) complex64 { return NarrowComplex(wideProduct(x, y)) }

// ScaleComplex returns a product with a number.
func ScaleComplex(x complex64, by float32) complex64 {
	return complex(float32(real(x)*by), float32(imag(x)*by))
}

// ConjugateOf returns the conjugate.
func ConjugateOf(x complex64) complex64 { return complex(real(x), -imag(x)) }

// PowerOf returns the power.
func PowerOf(x complex64) float32 { return float32(widePower(x)) }

// LongOf returns the root of the power.
func LongOf(x complex64) float32 { return float32(math.Sqrt(widePower(x))) }

// QuotientOf returns a quotient.
func QuotientOf(x, y complex64) complex64 {
	p, by := wideProduct(x, ConjugateOf(y)), widePower(y)
	return NarrowComplex(complex(real(p)/by, imag(p)/by))
}

// RootNumber returns the square root.
func RootNumber(x float32) float32 { return float32(math.Sqrt(float64(x))) }

// partOfTurn returns a number of turns, nearer to 0 than 2^52, without its
// whole turns. These are told by an integer, as only this has a 0 without a
// sign, by which -0 stays -0.
func partOfTurn(turns float64) float64 {
	f := turns - float64(int64(turns))
	if f < 0 {
		f++
	}
	return f
}

// wideSine returns the sine of a number of turns nearer to 0 than 2^52.
func wideSine(turns float64) float64 {
	const circle = 6.283185307179586
	f := partOfTurn(turns)
	lower := f >= 0.5
	if lower {
		f -= 0.5
	}
	if f > 0.25 {
		f = 0.5 - f
	}
	z := float64(f * circle)
	u := float64(z * z)
	p := 1.0
	for k := 8; k >= 1; k-- {
		p = 1 - float64(u*p)/float64(2*k*(2*k+1))
	}
	if lower {
		return -float64(z * p)
	}
	return float64(z * p)
}

// SineTurns returns the sine of some turns.
func SineTurns(x float32) float32 {
	if !IsFinite(x) {
		return float32(math.NaN())
	}
	if math.Abs(float64(x)) >= 0x1p52 {
		return 0
	}
	return float32(wideSine(float64(x)))
}

// PhasorOf returns a point of the unit circle.
func PhasorOf(turns float64) complex64 {
	if math.IsNaN(turns) || math.IsInf(turns, 0) {
		return complex(float32(math.NaN()), float32(math.NaN()))
	}
	if math.Abs(turns) >= 0x1p52 {
		return 1
	}
	f, q := partOfTurn(turns), 0
	for f >= 0.25 {
		f -= 0.25
		q++
	}
	c, s := wideSine(0.25-f), wideSine(f)
	// An opposite is told as 0 less it, so that that of +0 is +0.
	switch q {
	case 1:
		return NarrowComplex(complex(0-s, c))
	case 2:
		return NarrowComplex(complex(0-c, 0-s))
	case 3:
		return NarrowComplex(complex(s, 0-c))
	}
	return NarrowComplex(complex(c, s))
}

// AngleOf returns the angle in turns.
func AngleOf(x complex64) float32 { return AngleTurns(imag(x), real(x)) }

// AngleTurns returns the angle of a point.
func AngleTurns(y, x float32) float32 {
	if !IsFinite(y) || !IsFinite(x) {
		return float32(math.NaN())
	}
	if y == 0 && x == 0 {
		return 0
	}
	a, b := math.Abs(float64(y)), math.Abs(float64(x))
	angle := steepAngle(a, b)
	if x < 0 {
		angle = 0.5 - angle
	}
	if y < 0 {
		angle = -angle
	}
	return float32(angle)
}

// steepAngle returns the angle, in turns, of a point that is a up and b to the
// right, neither of them negative, and not both 0.
func steepAngle(a, b float64) float64 {
	const circle = 6.283185307179586
	t := a / b
	if a > b {
		t = b / a
	}
	for range 3 {
		t = t / (1 + math.Sqrt(1+float64(t*t)))
	}
	u := float64(t * t)
	p := 0.0
	for k := 15; k >= 1; k -= 2 {
		p = 1/float64(k) - float64(u*p)
	}
	angle := float64(8*float64(t*p)) / circle
	if a > b {
		return 0.25 - angle
	}
	return angle
}

// wideLog returns the natural logarithm of a finite number greater than 0.
func wideLog(x float64) float64 {
	const ofTwo = 0.6931471805599453
	e := 0
	for ; x >= 1.5; e++ {
		x /= 2
	}
	for ; x < 0.75; e-- {
		x *= 2
	}
	s := (x - 1) / (x + 1)
	u := float64(s * s)
	q := 0.0
	for k := 25; k >= 1; k -= 2 {
		q = 1/float64(k) + float64(u*q)
	}
	return float64(2*float64(s*q)) + float64(float64(e)*ofTwo)
}

// TenthsOf returns tenths of decibels.
func TenthsOf(power float32) (int64, bool) {
	if !IsFinite(power) || power <= 0 {
		return 0, false
	}
	const ofOne = 43.42944819032518
	return int64(math.Floor(float64(wideLog(float64(power))*ofOne) + 0.5)), true
}

// LogNumber returns the logarithm.
func LogNumber(x float32) float32 {
	switch {
	case x == 0:
		return float32(math.Inf(-1))
	case x > math.MaxFloat32:
		return x
	case x > 0:
		return float32(wideLog(float64(x)))
	}
	return float32(math.NaN())
}

// ExpNumber returns e to a power.
func ExpNumber(x float32) float32 {
	if x > 200 {
		return float32(math.Inf(1))
	}
	if x < -200 {
		return 0
	}
	t := float64(x) / 256
	p := 1.0
	for k := 12; k >= 1; k-- {
		p = 1 + float64(t*p)/float64(k)
	}
	for range 8 {
		p = float64(p * p)
	}
	return float32(p)
}

// SumNumbers returns the sum from left to right.
func SumNumbers(list []float32) (float32, bool) {
	if len(list) > MaxNumbers {
		return 0, false
	}
	var sum float32
	for _, x := range list {
		sum += x
	}
	return sum, true
}

// DotNumbers returns the sum of products.
func DotNumbers(a, b []float32) (float32, bool) {
	if len(a) != len(b) || len(a) > MaxNumbers {
		return 0, false
	}
	var sum float32
	for i, x := range a {
		sum += float32(x * b[i])
	}
	return sum, true
}

// SumComplex returns the sum from left to right.
func SumComplex(list []complex64) (complex64, bool) {
	if len(list) > MaxNumbers {
		return 0, false
	}
	var sum complex64
	for _, x := range list {
		sum += x
	}
	return sum, true
}

// DotComplex returns the sum of products.
func DotComplex(a, b []complex64) (complex64, bool) {
	if len(a) != len(b) || len(a) > MaxNumbers {
		return 0, false
	}
	var sum complex64
	for i, x := range a {
		sum += MulComplex(x, b[i])
	}
	return sum, true
}

// DotConjugate returns the sum of products with conjugates.
func DotConjugate(a, b []complex64) (complex64, bool) {
	if len(a) != len(b) || len(a) > MaxNumbers {
		return 0, false
	}
	var sum complex64
	for i, x := range a {
		sum += MulComplex(ConjugateOf(x), b[i])
	}
	return sum, true
}

// PowersOf returns the sum of powers.
func PowersOf(list []complex64) (float32, bool) {
	if len(list) > MaxNumbers {
		return 0, false
	}
	var sum float64
	for _, x := range list {
		sum += widePower(x)
	}
	return float32(sum), true
}

// joinParts returns the text of a list whose items have the texts parts.
func joinParts(parts []string) string {
	if len(parts) == 0 {
		return "none"
	}
	return strings.Join(parts, ",")
}

// splitParts returns the texts of the items of a list of at most most items.
// It counts them first, so that a long text does not make a long list.
func splitParts(s string, most int) ([]string, bool) {
	if s == "none" {
		return nil, true
	}
	if strings.Count(s, ",") >= most {
		return nil, false
	}
	return strings.Split(s, ","), true
}

// hexText returns the eight digits of a number.
func hexText(x float32) string {
	s := strconv.FormatInt(BitsOf(x), 16)
	return strings.Repeat("0", 8-len(s)) + s
}

// hexDigit returns the value of a hexadecimal digit.
func hexDigit(r rune) (int64, bool) {
	switch {
	case r >= '0' && r <= '9':
		return int64(r - '0'), true
	case r >= 'a' && r <= 'f':
		return int64(r-'a') + 10, true
	}
	return 0, false
}

// readHex returns the number with the eight digits s. Not-a-numbers have one
// text only, so the bits are held against those that the number tells.
func readHex(s string) (float32, bool) {
	if len(s) != 8 {
		return 0, false
	}
	var n int64
	for _, r := range s {
		d, ok := hexDigit(r)
		if !ok {
			return 0, false
		}
		n = n*16 + d
	}
	x, ok := FromBits(n)
	if !ok || BitsOf(x) != n {
		return 0, false
	}
	return x, true
}

// NumbersText returns the text of numbers.
func NumbersText(list []float32) (string, bool) {
	if len(list) > MaxNumbers {
		return "", false
	}
	parts := make([]string, len(list))
	for i, x := range list {
		parts[i] = hexText(x)
	}
	return joinParts(parts), true
}

// ReadNumbers returns the numbers with the given text.
func ReadNumbers(s string) ([]float32, bool) {
	parts, ok := splitParts(s, MaxNumbers)
	if !ok {
		return nil, false
	}
	list := make([]float32, len(parts))
	for i, part := range parts {
		if list[i], ok = readHex(part); !ok {
			return nil, false
		}
	}
	return list, true
}

// ComplexText returns the text of complex numbers.
func ComplexText(list []complex64) (string, bool) {
	if len(list) > MaxNumbers {
		return "", false
	}
	parts := make([]string, len(list))
	for i, x := range list {
		parts[i] = hexText(real(x)) + hexText(imag(x))
	}
	return joinParts(parts), true
}

// readHexPair returns the complex number with the sixteen digits s.
func readHexPair(s string) (complex64, bool) {
	if len(s) != 16 {
		return 0, false
	}
	a, first := readHex(s[:8])
	b, second := readHex(s[8:])
	if !first || !second {
		return 0, false
	}
	return complex(a, b), true
}

// ReadComplex returns the complex numbers with the given text.
func ReadComplex(s string) ([]complex64, bool) {
	parts, ok := splitParts(s, MaxNumbers)
	if !ok {
		return nil, false
	}
	list := make([]complex64, len(parts))
	for i, part := range parts {
		if list[i], ok = readHexPair(part); !ok {
			return nil, false
		}
	}
	return list, true
}

// IsName reports whether s is a name.
func IsName(s string) bool {
	if len(s) < 1 || len(s) > 8 {
		return false
	}
	for _, r := range s {
		if r < 'a' || r > 'z' {
			return false
		}
	}
	return true
}

// Decimal returns n in decimal.
func Decimal(n int64) string { return strconv.FormatInt(n, 10) }

// isValue reports whether a list of integers may have n.
func isValue(n int64) bool { return n >= -MaxValue && n <= MaxValue }

// ReadDecimal returns the number with the given decimal text.
func ReadDecimal(s string) (int64, bool) {
	n, err := strconv.ParseInt(s, 10, 64)
	if err != nil || !isValue(n) || Decimal(n) != s {
		return 0, false
	}
	return n, true
}

// ListText returns the text of a list.
func ListText(list []int64) (string, bool) {
	if len(list) > MaxItems {
		return "", false
	}
	parts := make([]string, len(list))
	for i, n := range list {
		if !isValue(n) {
			return "", false
		}
		parts[i] = Decimal(n)
	}
	return joinParts(parts), true
}

// ReadList returns the list with the given text.
func ReadList(s string) ([]int64, bool) {
	parts, ok := splitParts(s, MaxItems)
	if !ok {
		return nil, false
	}
	list := make([]int64, len(parts))
	for i, part := range parts {
		if list[i], ok = ReadDecimal(part); !ok {
			return nil, false
		}
	}
	return list, true
}

// CheckOf returns the check number of a text.
func CheckOf(start int64, s string) (int64, bool) {
	if start < 0 || start >= CheckSize {
		return 0, false
	}
	check := start
	for i := range len(s) {
		check = (947*check + int64(s[i]) + 211) % CheckSize
	}
	return check, true
}
