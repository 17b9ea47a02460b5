package tests

import (
	"testing"

	"loop.example/g01381/impl"
)

func wantNumberTrue(t *testing.T, what string, got float32, ok bool, want uint32) {
	t.Helper()
	wantBool(t, what, ok, true)
	wantNumber(t, what, got, want)
}

func wantComplexTrue(t *testing.T, what string, got complex64, ok bool, a, b uint32) {
	t.Helper()
	wantBool(t, what, ok, true)
	wantComplex(t, what, got, a, b)
}

func TestSumNumbers(t *testing.T) {
	big, small := float32(0x1p24), float32(1)
	for _, c := range []struct {
		list []float32
		want uint32
	}{
		{nil, 0}, {[]float32{}, 0}, {[]float32{num(minusZero)}, 0}, {many(num(minusZero), 3), 0},
		{[]float32{1, 2, 3.5}, 0x40d00000},
		// From left to right, each sum is rounded on its own.
		{[]float32{big, small, small}, bitsOf(big)}, {[]float32{small, small, big}, bitsOf(big + 2)},
		{[]float32{big, small, -big}, 0}, {[]float32{big, -big, small}, 0x3f800000},
		{many(num(leastNumber), 256), 256}, {[]float32{num(mostNumber), num(mostNumber), num(0xff7fffff)}, infinity},
		{[]float32{num(infinity), 1}, infinity}, {[]float32{num(infinity), num(minusEndless)}, notANumber},
		{[]float32{num(0xffc00001), 1}, notANumber},
	} {
		got, ok := impl.SumNumbers(c.list)
		wantNumberTrue(t, "SumNumbers", got, ok, c.want)
	}
	got, ok := impl.SumNumbers(many(float32(1), limitOfNumbers))
	wantNumberTrue(t, "as many as there may be", got, ok, 0x43800000)
	got, ok = impl.SumNumbers(many(float32(1), limitOfNumbers+1))
	wantFails(t, "one more", got, ok)
}

func TestDotNumbers(t *testing.T) {
	for _, c := range []struct {
		a, b []float32
		want uint32
	}{
		{nil, nil, 0}, {nil, []float32{}, 0}, {[]float32{1, 2}, []float32{3, 4}, 0x41300000},
		{[]float32{num(minusZero)}, []float32{1}, 0},
		// A product is rounded before it is added: here to 1 + 2^-22, and 1.
		{[]float32{1, num(0x3f800001)}, []float32{-1, num(0x3f800001)}, 0x34800000},
		{[]float32{-1, num(0x3f800001)}, []float32{1, num(0x3f7ffffe)}, 0},
		{[]float32{num(leastNumber), num(leastNumber)}, []float32{0.5, 0.5}, 0},
		{[]float32{num(mostNumber), num(mostNumber)}, []float32{2, -2}, notANumber},
		{[]float32{0x1p24, 1, 1}, []float32{1, 1, 1}, 0x4b800000},
		{[]float32{1, 1, 0x1p24}, []float32{1, 1, 1}, 0x4b800001},
	} {
		got, ok := impl.DotNumbers(c.a, c.b)
		wantNumberTrue(t, "DotNumbers", got, ok, c.want)
	}
	ones := many(float32(1), limitOfNumbers+1)
	got, ok := impl.DotNumbers(ones[1:], ones[:limitOfNumbers])
	wantNumberTrue(t, "as many as there may be", got, ok, 0x43800000)
	got, ok = impl.DotNumbers(ones, ones)
	wantFails(t, "one more", got, ok)
	got, ok = impl.DotNumbers(ones[:2], ones[:3])
	wantFails(t, "a shorter list", got, ok)
	got, ok = impl.DotNumbers(ones[:3], ones[:2])
	wantFails(t, "a longer list", got, ok)
	got, ok = impl.DotNumbers(ones[:1], nil)
	wantFails(t, "no list", got, ok)
}

func TestSumComplex(t *testing.T) {
	for _, c := range []struct {
		list []complex64
		a, b uint32
	}{
		{nil, 0, 0}, {[]complex64{}, 0, 0}, {[]complex64{cnum(minusZero, minusZero)}, 0, 0},
		{[]complex64{1, complex(2, 3)}, 0x40400000, 0x40400000},
		{[]complex64{complex(0x1p24, 1), complex(1, 1), complex(1, 0x1p24)}, 0x4b800000, 0x4b800001},
		{[]complex64{cnum(infinity, 0), cnum(minusEndless, 0x3f800000)}, notANumber, 0x3f800000},
		{many(cnum(leastNumber, 0x80000001), 256), 256, 0x80000100},
	} {
		got, ok := impl.SumComplex(c.list)
		wantComplexTrue(t, "SumComplex", got, ok, c.a, c.b)
	}
	got, ok := impl.SumComplex(many(complex64(complex(1, -1)), limitOfNumbers))
	wantComplexTrue(t, "as many as there may be", got, ok, 0x43800000, 0xc3800000)
	got, ok = impl.SumComplex(many(complex64(complex(1, -1)), limitOfNumbers+1))
	wantFails(t, "one more", got, ok)
}

func TestDotComplex(t *testing.T) {
	for _, c := range []struct {
		list, other []complex64
		a, b        uint32 // parts of the sum of products
		c, d        uint32 // and of that with conjugates
	}{
		{nil, nil, 0, 0, 0, 0},
		{[]complex64{complex(0, 1)}, []complex64{complex(0, 1)}, 0xbf800000, 0, 0x3f800000, 0},
		{[]complex64{complex(1, 2)}, []complex64{complex(3, -1)}, 0x40a00000, 0x40a00000, 0x3f800000, 0xc0e00000},
		{[]complex64{complex(1, 2), complex(3, -1)}, []complex64{complex(3, -1), complex(1, 2)}, 0x41200000, 0x41200000, 0x40000000, 0},
		{[]complex64{cnum(minusZero, 0)}, []complex64{1}, 0, 0, 0, 0},
		// Each product is narrowed before it is added.
		{[]complex64{0x1p24, complex(num(0x3f800001), 0)}, []complex64{-1, 0x1p24}, 0x40000000, 0, 0x40000000, 0},
		{[]complex64{1, complex(num(0x3f800001), 0)}, []complex64{-1, complex(num(0x3f800001), 0)}, 0x34800000, 0, 0x34800000, 0},
		{[]complex64{0x1p24, 1, 1}, []complex64{1, 1, 1}, 0x4b800000, 0, 0x4b800000, 0},
		{[]complex64{cnum(infinity, 0)}, []complex64{1}, infinity, notANumber, infinity, notANumber},
	} {
		got, ok := impl.DotComplex(c.list, c.other)
		wantComplexTrue(t, "DotComplex", got, ok, c.a, c.b)
		got, ok = impl.DotConjugate(c.list, c.other)
		wantComplexTrue(t, "DotConjugate", got, ok, c.c, c.d)
	}
}

func TestDotComplexFails(t *testing.T) {
	list := many(complex64(complex(0, 1)), limitOfNumbers+1)
	for _, c := range []struct {
		what  string
		dot   func(a, b []complex64) (complex64, bool)
		first uint32
	}{
		{"DotComplex", impl.DotComplex, 0xc3800000},
		{"DotConjugate", impl.DotConjugate, 0x43800000},
	} {
		got, ok := c.dot(list[1:], list[:limitOfNumbers])
		wantComplexTrue(t, c.what+", as many as there may be", got, ok, c.first, 0)
		got, ok = c.dot(list, list)
		wantFails(t, c.what+", one more", got, ok)
		got, ok = c.dot(list[:1], list[:2])
		wantFails(t, c.what+", a shorter list", got, ok)
		got, ok = c.dot(list[:2], list[:1])
		wantFails(t, c.what+", a longer list", got, ok)
		got, ok = c.dot(nil, list[:1])
		wantFails(t, c.what+", no list", got, ok)
	}
}

// The conjugates are those of a, which exchanging both lists shows.
func TestDotConjugateTakesThoseOfTheFirst(t *testing.T) {
	a, b := []complex64{complex(1, 2), complex(-3, 5)}, []complex64{complex(4, 7), complex(2, -6)}
	one, _ := impl.DotConjugate(a, b)
	two, _ := impl.DotConjugate(b, a)
	if one != complex(-18, 7) || two != complex(-18, -7) {
		t.Errorf("got %v and %v", one, two)
	}
}

func TestPowersOf(t *testing.T) {
	for _, c := range []struct {
		list []complex64
		want uint32
	}{
		{nil, 0}, {[]complex64{cnum(minusZero, minusZero)}, 0},
		{[]complex64{complex(3, 4), 1}, 0x41d00000},
		// The sum is narrowed in the end only.
		{[]complex64{0x1p12, 1, 1}, 0x4b800001},
		{many(cnum(leastNumber, 0), limitOfNumbers), 0},
		{many(complex64(complex(0x1p-74, 0)), 4), 8},
		{many(complex64(complex(0x1p-75, 0x1p-75)), 1), 1},
		{many(complex64(complex(0x1p-76, 0)), 8), 1},
		{[]complex64{cnum(mostNumber, 0), 1}, infinity},
		{[]complex64{cnum(minusEndless, 0)}, infinity}, {[]complex64{cnum(infinity, notANumber)}, notANumber},
	} {
		got, ok := impl.PowersOf(c.list)
		wantNumberTrue(t, "PowersOf", got, ok, c.want)
	}
	got, ok := impl.PowersOf(many(complex64(complex(0, 1)), limitOfNumbers))
	wantNumberTrue(t, "as many as there may be", got, ok, 0x43800000)
	got, ok = impl.PowersOf(many(complex64(1), limitOfNumbers+1))
	wantFails(t, "one more", got, ok)
}

// In 64 bits, too, the sum goes from left to right, and a power is added whole.
func TestPowersAreAddedInOrder(t *testing.T) {
	// 2^54 + 2^30 is halfway between two 32-bit numbers, and the next 64-bit one
	// is 4 more: a single 1 is lost behind it, but three of them are not.
	halfway := []complex64{complex(0x1p27, 0x1p15)}
	got, ok := impl.PowersOf(append(halfway[:1:1], 1, 1, 1))
	wantNumberTrue(t, "small ones behind", got, ok, 0x5a800000)
	got, ok = impl.PowersOf(append([]complex64{1, 1, 1}, halfway...))
	wantNumberTrue(t, "small ones before", got, ok, 0x5a800001)
	got, ok = impl.PowersOf(append(halfway[:1:1], complex(1.25, 1.25)))
	wantNumberTrue(t, "both parts of one behind", got, ok, 0x5a800001)
}
