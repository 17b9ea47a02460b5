package tests

import (
	"math"
	"testing"

	"loop.example/g01381/impl"
)

func TestConstantsOfNumbers(t *testing.T) {
	if impl.MaxNumbers != 256 || impl.MaxValue != 1000000000000000 || impl.MaxItems != 64 || impl.CheckSize != 65003 {
		t.Error("a limit of chapter 1 is not the document's")
	}
}

// The examples at the end of chapter 1.
func TestExamplesOfNumbers(t *testing.T) {
	wantComplex(t, "product", impl.MulComplex(complex(1, 2), complex(3, -1)), 0x40a00000, 0x40a00000)
	wantComplex(t, "quotient", impl.QuotientOf(complex(0, 4), 2), 0, 0x40000000)
	wantComplex(t, "phasor", impl.PhasorOf(0.25), 0, 0x3f800000)
	wantNumber(t, "angle", impl.AngleOf(impl.PhasorOf(0.25)), 0x3e800000)
	s, ok := impl.ComplexText([]complex64{1})
	wantSucceeds(t, "text", s, ok, "3f80000000000000")
	n, ok := impl.TenthsOf(1)
	wantSucceeds(t, "tenths", n, ok, 0)
}

// Promise 2: numbers are told by their bits.
func TestSameNumber(t *testing.T) {
	list := append(seldom(), draws(60)...)
	for _, a := range list {
		for _, b := range list {
			wantBool(t, "SameNumber", impl.SameNumber(a, b), bitsOf(a) == bitsOf(b))
		}
	}
	wantBool(t, "both zeros", impl.SameNumber(0, num(minusZero)), false)
	wantBool(t, "two not-a-numbers", impl.SameNumber(num(0x7f800001), num(0xffc00000)), true)
	wantBool(t, "subnormal numbers", impl.SameNumber(num(1), num(2)), false)
}

func TestSameComplex(t *testing.T) {
	list := seldom()
	for _, a := range list {
		for _, b := range list {
			same := bitsOf(a) == bitsOf(b)
			wantBool(t, "real", impl.SameComplex(complex(a, 7), complex(b, 7)), same)
			wantBool(t, "imaginary", impl.SameComplex(complex(7, a), complex(7, b)), same)
			wantBool(t, "both", impl.SameComplex(complex(a, a), complex(b, b)), same)
			wantBool(t, "exchanged", impl.SameComplex(complex(a, b), complex(b, a)), same)
		}
	}
	wantBool(t, "other part", impl.SameComplex(complex(1, 2), complex(1, 3)), false)
}

func TestIsFinite(t *testing.T) {
	for _, x := range append(seldom(), draws(3000)...) {
		want := math.Float32bits(x)&infinity != infinity
		wantBool(t, "IsFinite", impl.IsFinite(x), want)
		wantBool(t, "real part", impl.IsFiniteComplex(complex(x, 1)), want)
		wantBool(t, "imaginary part", impl.IsFiniteComplex(complex(1, x)), want)
	}
	wantBool(t, "greatest", impl.IsFinite(num(mostNumber)), true)
	wantBool(t, "infinity", impl.IsFinite(num(infinity)), false)
	wantBool(t, "least infinity", impl.IsFinite(num(minusEndless)), false)
}

func TestBitsOf(t *testing.T) {
	for _, x := range append(seldom(), draws(3000)...) {
		if got := impl.BitsOf(x); got != int64(bitsOf(x)) {
			t.Errorf("BitsOf(%v): got %d, want %d", x, got, bitsOf(x))
		}
	}
	if got := impl.BitsOf(num(minusZero)); got != 2147483648 {
		t.Errorf("BitsOf(-0): got %d", got)
	}
	for _, b := range []uint32{0x7f800001, 0x7fffffff, 0xff800001, 0xffc00000, 0xffffffff} {
		if got := impl.BitsOf(num(b)); got != 2143289344 {
			t.Errorf("BitsOf a not-a-number with %08x: got %d", b, got)
		}
	}
}

func TestFromBits(t *testing.T) {
	for _, x := range append(seldom(), draws(3000)...) {
		got, ok := impl.FromBits(int64(math.Float32bits(x)))
		wantBool(t, "FromBits", ok, true)
		wantNumber(t, "FromBits", got, bitsOf(x))
	}
	x, ok := impl.FromBits(4294967295)
	wantBool(t, "greatest bits", ok, true)
	wantNumber(t, "greatest bits", x, notANumber)
	x, ok = impl.FromBits(0)
	wantBool(t, "least bits", ok, true)
	wantNumber(t, "least bits", x, 0)
	for _, n := range []int64{-1, 4294967296, 4294967296 + 0x3f800000, math.MaxInt64, math.MinInt64} {
		x, ok := impl.FromBits(n)
		wantFails(t, "FromBits", x, ok)
	}
}

func TestNarrowNumber(t *testing.T) {
	for _, c := range []struct {
		x    float64
		want uint32
	}{
		{0, 0}, {math.Copysign(0, -1), minusZero}, {0.5, 0x3f000000},
		{1 + 0x1p-24, 0x3f800000}, {1 + 0x3p-24, 0x3f800002}, {1 + 0x1p-24 + 0x1p-52, 0x3f800001},
		{-1 - 0x1p-24, 0xbf800000}, {-1 - 0x3p-24, 0xbf800002},
		{0x1p-149, leastNumber}, {0x1p-150, 0}, {-0x1p-150, minusZero}, {0x1.8p-150, leastNumber},
		{0x1.0000000000001p-150, leastNumber}, {0x1.8p-149, 2}, {0x1p-1074, 0}, {-0x1p-1074, minusZero},
		{0x1p-126 - 0x1p-151, leastNormal}, {0x1p-126 - 0x1p-149, mostBelow},
		{math.MaxFloat32, mostNumber}, {0x1.ffffffp127, infinity}, {0x1.fffffefffffffp127, mostNumber},
		{-0x1.ffffffp127, minusEndless}, {math.MaxFloat64, infinity}, {math.Inf(1), infinity},
		{math.Inf(-1), minusEndless}, {math.NaN(), notANumber},
	} {
		wantNumber(t, "NarrowNumber", impl.NarrowNumber(c.x), c.want)
		wantComplex(t, "NarrowComplex", impl.NarrowComplex(complex(c.x, 2)), c.want, 0x40000000)
		wantComplex(t, "NarrowComplex", impl.NarrowComplex(complex(2, c.x)), 0x40000000, c.want)
	}
	wantComplex(t, "both parts", impl.NarrowComplex(complex(0.5, -2)), 0x3f000000, 0xc0000000)
}

func TestSubnormalNumbers(t *testing.T) {
	for _, x := range append(seldom(), draws(3000)...) {
		b := math.Float32bits(x)
		below := b&infinity == 0 && b&mostBelow != 0
		wantBool(t, "IsSubnormal", impl.IsSubnormal(x), below)
		want := bitsOf(x)
		if below {
			want = b & minusZero
		}
		wantNumber(t, "FlushNumber", impl.FlushNumber(x), want)
	}
	wantBool(t, "greatest subnormal", impl.IsSubnormal(num(mostBelow)), true)
	wantBool(t, "least normal", impl.IsSubnormal(num(leastNormal)), false)
	wantBool(t, "zero", impl.IsSubnormal(0), false)
	wantBool(t, "zero with a sign", impl.IsSubnormal(num(minusZero)), false)
	wantNumber(t, "flushed", impl.FlushNumber(num(0x80000001)), minusZero)
	wantNumber(t, "least normal", impl.FlushNumber(num(0x80800000)), 0x80800000)
	wantNumber(t, "not-a-number", impl.FlushNumber(num(0xffc00001)), notANumber)
}

func TestRootNumber(t *testing.T) {
	for _, c := range [][2]uint32{
		{0, 0}, {minusZero, minusZero}, {0x41100000, 0x40400000}, {0x40000000, 0x3fb504f3},
		{leastNumber, 0x1a3504f3}, {mostNumber, 0x5f7fffff}, {infinity, infinity},
		{0x80000001, notANumber}, {0xbf800000, notANumber}, {minusEndless, notANumber}, {notANumber, notANumber},
	} {
		wantNumber(t, "RootNumber", impl.RootNumber(num(c[0])), c[1])
	}
	for n := range int64(4096) {
		wantNumber(t, "root of a square", impl.RootNumber(float32(n*n)), bitsOf(float32(n)))
	}
}
