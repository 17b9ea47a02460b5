package tests

import (
	"math"
	"math/big"
	"testing"

	"loop.example/g01381/impl"
)

// Promise 2: products of small integers are exact.
func TestProductsOfSmallIntegers(t *testing.T) {
	for a := -7; a <= 7; a++ {
		for b := -7; b <= 7; b++ {
			for c := -7; c <= 7; c++ {
				for d := -7; d <= 7; d++ {
					x, y := complex(float32(a), float32(b)), complex(float32(c), float32(d))
					if got := impl.MulComplex(x, y); got != complex(float32(a*c-b*d), float32(a*d+b*c)) {
						t.Fatalf("%v times %v: got %v", x, y, got)
					}
				}
			}
		}
	}
	if got := impl.MulComplex(complex(2047, 2046), complex(2045, 2044)); got != complex(2047*2045-2046*2044, 2047*2044+2046*2045) {
		t.Errorf("greater integers: got %v", got)
	}
}

// exactly narrows a sum of two products as the document has it: products are
// exact, the sum is rounded to 64 bits, and the result to 32 bits.
func exactly(a, b, c, d float32, minus bool) float32 {
	wide := func(x, y float32) *big.Float {
		return new(big.Float).SetPrec(48).Mul(big.NewFloat(float64(x)), big.NewFloat(float64(y)))
	}
	first, second := wide(a, b), wide(c, d)
	if minus {
		second.Neg(second)
	}
	sum, _ := new(big.Float).SetPrec(53).Add(first, second).Float64()
	return float32(sum)
}

func TestMulComplexRounds(t *testing.T) {
	list := draws(4000)
	for i := range list[:len(list)-3] {
		a, b, c, d := list[i], list[i+1], list[i+2], list[i+3]
		x, y := complex(a, b), complex(c, d)
		if !impl.IsFiniteComplex(x) || !impl.IsFiniteComplex(y) {
			continue
		}
		want := complex(exactly(a, c, b, d, true), exactly(a, d, b, c, false))
		wantComplex(t, "MulComplex", impl.MulComplex(x, y), bitsOf(real(want)), bitsOf(imag(want)))
		power := exactly(a, a, b, b, false)
		wantNumber(t, "PowerOf", impl.PowerOf(x), bitsOf(power))
	}
}

func TestMulComplexEdges(t *testing.T) {
	for _, c := range [][6]uint32{
		// Both parts of 1 + 1 i times 1 + 1 i: a difference that is 0 has no sign.
		{0x3f800000, 0x3f800000, 0x3f800000, 0x3f800000, 0, 0x40000000},
		{minusZero, 0, 0x3f800000, 0, minusZero, 0},
		{minusZero, minusZero, 0x3f800000, 0, 0, minusZero},
		// Products in 32 bits would be infinite, or 0.
		{mostNumber, mostNumber, 0x40000000, 0x40000000, 0, infinity},
		{leastNumber, 0, 0x3f000000, 0, 0, 0},
		{leastNumber, leastNumber, 0x3f000000, 0x3f000000, 0, leastNumber},
		{infinity, 0, 0x3f800000, 0, infinity, notANumber},
		{infinity, infinity, infinity, infinity, notANumber, infinity},
		{notANumber, 0, 0x3f800000, 0, notANumber, notANumber},
		// 1 + 2^-22 squared less 1: not the same when each product is narrowed.
		{0x3f800002, 0x3f800000, 0x3f800002, 0x3f800000, 0x35000001, 0x40000002},
	} {
		wantComplex(t, "MulComplex", impl.MulComplex(cnum(c[0], c[1]), cnum(c[2], c[3])), c[4], c[5])
	}
}

func TestScaleComplex(t *testing.T) {
	if got := impl.ScaleComplex(complex(1, 2), 0.5); got != complex(0.5, 1) {
		t.Errorf("half: got %v", got)
	}
	list := append(seldom(), draws(40)...)
	for _, a := range list {
		for _, by := range list {
			want := bitsOf(float32(float64(a) * float64(by)))
			wantComplex(t, "real", impl.ScaleComplex(complex(a, 1), by), want, bitsOf(by))
			wantComplex(t, "imaginary", impl.ScaleComplex(complex(1, a), by), bitsOf(by), want)
		}
	}
	// As a product of complex numbers, this would have a not-a-number.
	wantComplex(t, "infinity", impl.ScaleComplex(complex(1, 1), num(infinity)), infinity, infinity)
	wantComplex(t, "zero", impl.ScaleComplex(complex(1, -1), num(minusZero)), minusZero, 0)
}

func TestConjugateOf(t *testing.T) {
	for _, x := range seldom() {
		want := bitsOf(x) ^ minusZero
		if math.IsNaN(float64(x)) {
			want = notANumber
		}
		wantComplex(t, "ConjugateOf", impl.ConjugateOf(complex(x, x)), bitsOf(x), want)
	}
	wantComplex(t, "zero", impl.ConjugateOf(0), 0, minusZero)
	wantComplex(t, "zero with a sign", impl.ConjugateOf(cnum(minusZero, minusZero)), minusZero, 0)
}

func TestPowers(t *testing.T) {
	for _, c := range [][4]uint32{
		{0x40400000, 0x40800000, 0x41c80000, 0x40a00000},
		{0xc0400000, 0xc0800000, 0x41c80000, 0x40a00000},
		{0, minusZero, 0, 0},
		{minusZero, minusZero, 0, 0},
		// The power is too great or too small for 32 bits, its root is not.
		{mostNumber, 0, infinity, mostNumber},
		{mostNumber, mostNumber, infinity, infinity},
		{leastNumber, 0, 0, leastNumber},
		{leastNumber, leastNumber, 0, leastNumber},
		{infinity, 0, infinity, infinity},
		{minusEndless, infinity, infinity, infinity},
		{infinity, notANumber, notANumber, notANumber},
		{0x3f800000, 0x3f800000, 0x40000000, 0x3fb504f3},
		{0x3dcccccd, 0x3e99999a, 0x3dccccce, 0x3ea1e89b},
	} {
		wantNumber(t, "PowerOf", impl.PowerOf(cnum(c[0], c[1])), c[2])
		wantNumber(t, "LongOf", impl.LongOf(cnum(c[0], c[1])), c[3])
	}
	for _, x := range draws(2000) {
		if impl.IsFinite(x) {
			wantNumber(t, "LongOf a real number", impl.LongOf(complex(x, 0)), bitsOf(x)&^minusZero)
		}
	}
}

func TestQuotientOf(t *testing.T) {
	for _, c := range [][6]uint32{
		{0, 0x40800000, 0x40000000, 0, 0, 0x40000000},
		{0x40a00000, 0x40a00000, 0x40400000, 0xbf800000, 0x3f800000, 0x40000000},
		{0x3f800000, 0x40000000, 0x40400000, 0x40800000, 0x3ee147ae, 0x3da3d70a},
		// Divided by zero: the product with its conjugate has zeros only.
		{0x3f800000, 0, 0, 0, notANumber, notANumber},
		{0xbf800000, 0x3f800000, 0, 0, notANumber, notANumber},
		{0, 0, 0, 0, notANumber, notANumber},
		{0x3f800000, 0x3f800000, minusZero, minusZero, notANumber, notANumber},
		{infinity, 0, 0, 0, notANumber, notANumber},
		// The power of y is no zero in 64 bits, and the parts are none either.
		{leastNumber, leastNumber, leastNumber, leastNumber, 0x3f800000, 0},
		{mostNumber, mostNumber, leastNumber, 0, infinity, infinity},
		{0x3f800000, 0x3f800000, mostNumber, mostNumber, 0x00200000, 0},
		{0x3f800000, 0, infinity, 0, notANumber, notANumber},
		{infinity, 0, 0x3f800000, 0, infinity, notANumber},
		{0x3f800000, 0x3f800000, 0x3dcccccd, 0x3e99999a, 0x407fffff, 0xc0000000},
		{minusZero, 0, 0x3f800000, 0, 0, 0},
		{0, minusZero, 0x3f800000, 0, 0, minusZero},
		{minusZero, minusZero, 0xbf800000, 0, 0, 0},
	} {
		wantComplex(t, "QuotientOf", impl.QuotientOf(cnum(c[0], c[1]), cnum(c[2], c[3])), c[4], c[5])
	}
	for n := 1; n < 200; n++ {
		x, y := complex(float32(n), float32(3-n)), complex(float32(n%7-3), float32(n%5+1))
		if got := impl.QuotientOf(impl.MulComplex(x, y), y); got != x {
			t.Errorf("%v times %v divided by it: got %v", x, y, got)
		}
	}
}
