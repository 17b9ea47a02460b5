package tests

import (
	"fmt"
	"math"
	"strings"
	"testing"

	"loop.example/g01381/impl"
)

// shown tells results so that equal ones, and only those, have the same text.
func shown(results ...any) string {
	var b strings.Builder
	for _, r := range results {
		switch x := r.(type) {
		case float32:
			fmt.Fprintf(&b, "%08x ", bitsOf(x))
		case complex64:
			fmt.Fprintf(&b, "%08x:%08x ", bitsOf(real(x)), bitsOf(imag(x)))
		case []float32:
			fmt.Fprintf(&b, "%d[", len(x))
			for _, y := range x {
				b.WriteString(shown(y))
			}
		case []complex64:
			fmt.Fprintf(&b, "%d[", len(x))
			for _, y := range x {
				b.WriteString(shown(y))
			}
		case string, []string:
			fmt.Fprintf(&b, "%q ", x)
		default:
			fmt.Fprintf(&b, "%v ", x)
		}
	}
	return b.String()
}

// allOfNumbers calls each function of chapter 1 that takes single numbers.
func allOfNumbers(x, y float32) string {
	c, d := complex(x, y), complex(y, x)
	turns := float64(x) + float64(y)/3
	tenths, ok := impl.TenthsOf(x)
	first := shown(impl.SameNumber(x, y), impl.IsFinite(x), impl.BitsOf(x), impl.NarrowNumber(turns),
		impl.IsSubnormal(x), impl.FlushNumber(x), impl.SameComplex(c, d), impl.IsFiniteComplex(c),
		impl.NarrowComplex(complex(turns, float64(y))), impl.MulComplex(c, d), impl.ScaleComplex(c, y),
		impl.ConjugateOf(c), impl.PowerOf(c), impl.LongOf(c), impl.QuotientOf(c, d))
	return first + shown(impl.PhasorOf(turns), impl.AngleOf(c), impl.SineTurns(x), impl.AngleTurns(x, y),
		tenths, ok, impl.RootNumber(x), impl.ExpNumber(x), impl.LogNumber(x))
}

// allOfLists calls each function of chapter 1 that takes lists.
func allOfLists(a, b []float32, c, d []complex64, n []int64) string {
	one, ok1 := impl.SumNumbers(a)
	two, ok2 := impl.DotNumbers(a, b)
	three, ok3 := impl.SumComplex(c)
	four, ok4 := impl.DotComplex(c, d)
	five, ok5 := impl.DotConjugate(c, d)
	six, ok6 := impl.PowersOf(c)
	seven, ok7 := impl.NumbersText(a)
	eight, ok8 := impl.ComplexText(c)
	nine, ok9 := impl.ListText(n)
	return shown(one, ok1, two, ok2, three, ok3, four, ok4, five, ok5, six, ok6, seven, ok7, eight, ok8, nine, ok9)
}

// allOfTexts calls each function of chapter 1 that takes texts or integers.
func allOfTexts(s string, n int64) string {
	one, ok1 := impl.ReadNumbers(s)
	two, ok2 := impl.ReadComplex(s)
	three, ok3 := impl.ReadDecimal(s)
	four, ok4 := impl.ReadList(s)
	five, ok5 := impl.CheckOf(n, s)
	six, ok6 := impl.FromBits(n)
	return shown(one, ok1, two, ok2, three, ok3, four, ok4, five, ok5, six, ok6, impl.IsName(s), impl.Decimal(n))
}

// Promise 1: each function returns, and equal results for equal arguments.
func TestNumbersAgain(t *testing.T) {
	list := append(seldom(), draws(30)...)
	for _, x := range list {
		for _, y := range list {
			if one, two := allOfNumbers(x, y), allOfNumbers(x, y); one != two {
				t.Fatalf("%v and %v: got %s and then %s", x, y, one, two)
			}
		}
	}
	// All not-a-numbers are one value, whatever their bits are.
	for _, y := range list {
		for _, b := range []uint32{0x7f800001, 0x7fffffff, 0xffc00000, 0xff800001} {
			if one, two := allOfNumbers(num(notANumber), y), allOfNumbers(num(b), y); one != two {
				t.Fatalf("not-a-number with bits %08x and %v: got %s, want %s", b, y, two, one)
			}
			if one, two := allOfNumbers(y, num(notANumber)), allOfNumbers(y, num(b)); one != two {
				t.Fatalf("%v and a not-a-number with bits %08x: got %s, want %s", y, b, two, one)
			}
		}
	}
}

func TestLargeTurnsReturn(t *testing.T) {
	for e := -1074; e < 1024; e++ {
		for _, m := range []float64{1, 1.25, 1.9999999999999998, -1, -1.25, -1.9999999999999998} {
			p := impl.PhasorOf(math.Ldexp(m, e))
			if power := impl.PowerOf(p); math.Abs(float64(power)-1) > 1e-6 {
				t.Fatalf("phasor of %v times 2^%d: got %v", m, e, p)
			}
		}
	}
}

func TestTextsAgain(t *testing.T) {
	texts := []string{"", "none", "0", "-1", "1,2", "ring", "3f800000", "3f80000000000000", "\xff\x00", strings.Repeat("9", 5000), strings.Repeat("1,", 5000), strings.Repeat("a", 5000)}
	for _, s := range texts {
		for _, n := range []int64{math.MinInt64, -1, 0, 1, impl.CheckSize - 1, impl.CheckSize, math.MaxUint32, math.MaxUint32 + 1, math.MaxInt64} {
			one, two := allOfTexts(s, n), allOfTexts(strings.Clone(s), n)
			if one != two {
				t.Errorf("%q and %d: got %s and then %s", s, n, one, two)
			}
		}
	}
}

// Promise 1: no function changes a list, or what is behind it in its memory.
func TestListsAreNotChanged(t *testing.T) {
	for _, size := range []int{0, 1, 2, 63, 64, 65, 255, 256, 257} {
		a, b := draws(2 * size)[:size], draws(2 * size)[size:]
		c, n := make([]complex64, size), make([]int64, size)
		for i := range size {
			c[i], n[i] = complex(a[i], b[i]), int64(i*i)-50
		}
		sameBits := func(x, y float32) bool { return math.Float32bits(x) == math.Float32bits(y) }
		roomA, keptA := withRoom(a, 7, sameBits)
		roomB, keptB := withRoom(b, -7, sameBits)
		sameParts := func(x, y complex64) bool { return sameBits(real(x), real(y)) && sameBits(imag(x), imag(y)) }
		roomC, keptC := withRoom(c, 7i, sameParts)
		roomD, keptD := withRoom(c, -7i, sameParts)
		roomN, keptN := withRoom(n, 77, func(x, y int64) bool { return x == y })
		one := allOfLists(roomA, roomB, roomC, roomD, roomN)
		if !keptA() || !keptB() || !keptC() || !keptD() || !keptN() {
			t.Errorf("lists of %d: an argument was changed", size)
		}
		// The unused capacity is no part of an argument.
		if two := allOfLists(a[:size:size], b, c, c, n); one != two {
			t.Errorf("lists of %d: got %s and then %s", size, one, two)
		}
	}
}

// Promise 1: what a reader returns is not shared with what it returns again.
func TestReadersReturnNewLists(t *testing.T) {
	for range 2 {
		a, ok := impl.ReadNumbers("3f800000,40000000")
		if !ok || !sameList(a, []float32{1, 2}) {
			t.Fatalf("ReadNumbers: got %v, %v", a, ok)
		}
		b, ok := impl.ReadComplex("3f80000040000000")
		if !ok || !sameComplexList(b, []complex64{complex(1, 2)}) {
			t.Fatalf("ReadComplex: got %v, %v", b, ok)
		}
		c, ok := impl.ReadList("1,2")
		if !ok || len(c) != 2 || c[0] != 1 || c[1] != 2 {
			t.Fatalf("ReadList: got %v, %v", c, ok)
		}
		a[0], b[0], c[0] = 9, 9, 9
	}
}
