package tests

import (
	"math"
	"slices"
	"strings"
	"testing"

	"loop.example/g01381/impl"
)

// limitOfNumbers is how many numbers a list of chapter 1 can have.
const limitOfNumbers = impl.MaxNumbers

// The bits of some numbers.
const (
	minusZero    = 0x80000000
	leastNumber  = 0x00000001
	mostBelow    = 0x007fffff // the greatest subnormal number
	leastNormal  = 0x00800000
	mostNumber   = 0x7f7fffff
	infinity     = 0x7f800000
	minusEndless = 0xff800000
	notANumber   = 0x7fc00000
)

// num returns the number with some bits; the tests do not use FromBits for it.
func num(bits uint32) float32 { return math.Float32frombits(bits) }

// cnum returns the complex number whose parts have some bits.
func cnum(a, b uint32) complex64 { return complex(num(a), num(b)) }

// bitsOf returns the bits of a number, the same for all not-a-numbers.
func bitsOf(x float32) uint32 {
	if math.IsNaN(float64(x)) {
		return notANumber
	}
	return math.Float32bits(x)
}

func wantNumber(t *testing.T, what string, got float32, want uint32) {
	t.Helper()
	if bitsOf(got) != want {
		t.Errorf("%s: got %v (%08x), want %v (%08x)", what, got, bitsOf(got), num(want), want)
	}
}

func wantComplex(t *testing.T, what string, got complex64, a, b uint32) {
	t.Helper()
	if bitsOf(real(got)) != a || bitsOf(imag(got)) != b {
		t.Errorf("%s: got %v (%08x, %08x), want (%08x, %08x)", what, got, bitsOf(real(got)), bitsOf(imag(got)), a, b)
	}
}

func wantBool(t *testing.T, what string, got, want bool) {
	t.Helper()
	if got != want {
		t.Errorf("%s: got %v, want %v", what, got, want)
	}
}

// wantFails checks a function that fails: its result is a zero value.
func wantFails[T comparable](t *testing.T, what string, got T, ok bool) {
	t.Helper()
	var zero T
	if ok || got != zero {
		t.Errorf("%s: got %v, %v, want it to fail with a zero value", what, got, ok)
	}
}

// wantFailsList checks a function that fails: its result is an empty list.
func wantFailsList[T any](t *testing.T, what string, got []T, ok bool) {
	t.Helper()
	if ok || len(got) != 0 {
		t.Errorf("%s: got %v, %v, want it to fail with no list", what, got, ok)
	}
}

// wantSucceeds checks a function that succeeds with a result.
func wantSucceeds[T comparable](t *testing.T, what string, got T, ok bool, want T) {
	t.Helper()
	if !ok || got != want {
		t.Errorf("%s: got %v, %v, want %v, true", what, got, ok, want)
	}
}

// seldom returns numbers at which functions are likely to be wrong.
func seldom() []float32 {
	var list []float32
	for _, b := range []uint32{
		0, leastNumber, 0x00000002, 0x00400000, mostBelow, leastNormal, 0x00800001,
		0x1e3ce508, 0x33800000, 0x3dcccccd, 0x3e7fffff, 0x3e800000, 0x3e800001,
		0x3effffff, 0x3f000000, 0x3f000001, 0x3f3fffff, 0x3f400000, 0x3f400001,
		0x3f7fffff, 0x3f800000, 0x3f800001, 0x3fbfffff, 0x3fc00000, 0x40000000,
		0x40490fdb, 0x42ac0052, 0x42ae7135, 0x42b17218, 0x42cfcccd, 0x43480000, 0x43480001, 0x4a7fffff,
		0x4b000000, 0x597fffff, 0x59800000, 0x59800001, mostNumber, infinity,
		0x7f800001, notANumber, 0x7fffffff,
	} {
		list = append(list, num(b), num(b|minusZero))
	}
	return list
}

// draws returns n numbers of all kinds, always the same ones.
func draws(n int) []float32 {
	list := make([]float32, n)
	seed := uint32(12345)
	next := func() uint32 {
		seed = seed*1664525 + 1013904223
		return seed >> 8
	}
	for i := range list {
		switch i % 3 {
		case 0:
			list[i] = num(next()<<8 ^ next())
		case 1:
			list[i] = float32(next())/(1<<22) - 2
		case 2:
			list[i] = (float32(next())/(1<<23) - 1) * 210
		}
	}
	return list
}

// withRoom returns a copy of a list that has unused capacity, filled with pad,
// and a function that reports whether neither has changed.
func withRoom[T any](list []T, pad T, same func(a, b T) bool) ([]T, func() bool) {
	all := append(slices.Clone(list), pad, pad, pad)
	before := slices.Clone(all)
	return all[:len(list)], func() bool { return slices.EqualFunc(all, before, same) }
}

// sameList reports whether lists have the same numbers.
func sameList(a, b []float32) bool {
	return slices.EqualFunc(a, b, func(x, y float32) bool { return bitsOf(x) == bitsOf(y) })
}

// sameComplexList reports whether lists have the same complex numbers.
func sameComplexList(a, b []complex64) bool {
	return slices.EqualFunc(a, b, sameBothParts)
}

func sameBothParts(x, y complex64) bool {
	return bitsOf(real(x)) == bitsOf(real(y)) && bitsOf(imag(x)) == bitsOf(imag(y))
}

// manyTexts returns n times the same text with commas between.
func manyTexts(s string, n int) string {
	return strings.TrimSuffix(strings.Repeat(s+",", n), ",")
}

// many returns a list of n equal items.
func many[T any](x T, n int) []T { return slices.Repeat([]T{x}, n) }

// nearlyRight returns texts that differ a little from s, and none of which is
// the text of a list.
func nearlyRight(s string) []string {
	return []string{
		"", " ", ",", "NONE", "None", "none ", " none", "none,", ",none", "none,none", "non",
		s + ",", "," + s, s + ",," + s, s + " ", " " + s, s + "\n", s + "\x00", s + ", " + s,
		"+" + s, "-" + s, "0" + s, s + ";" + s, "none," + s, s + ",none", s + "\xff", "0x" + s,
	}
}
