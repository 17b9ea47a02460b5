package tests

import (
	"math"
	"slices"
	"strconv"
	"strings"
	"testing"

	"loop.example/g01381/impl"
)

func TestNumbersText(t *testing.T) {
	for _, c := range []struct {
		list []float32
		want string
	}{
		{nil, "none"}, {[]float32{}, "none"}, {[]float32{0}, "00000000"}, {[]float32{num(minusZero)}, "80000000"},
		{[]float32{1, -2}, "3f800000,c0000000"}, {[]float32{num(leastNumber), num(mostBelow)}, "00000001,007fffff"},
		{[]float32{num(infinity), num(minusEndless)}, "7f800000,ff800000"},
		{[]float32{num(0x7f800001), num(0xffffffff)}, "7fc00000,7fc00000"},
		{[]float32{num(0x0abcdef9)}, "0abcdef9"},
	} {
		s, ok := impl.NumbersText(c.list)
		wantSucceeds(t, "NumbersText", s, ok, c.want)
		list, ok := impl.ReadNumbers(c.want)
		if !ok || !sameList(list, c.list) {
			t.Errorf("ReadNumbers(%q): got %v, %v", c.want, list, ok)
		}
	}
	s, ok := impl.NumbersText(many(float32(1), limitOfNumbers))
	wantSucceeds(t, "as many as there may be", s, ok, manyTexts("3f800000", limitOfNumbers))
	s, ok = impl.NumbersText(many(float32(1), limitOfNumbers+1))
	wantFails(t, "one more", s, ok)
}

// Promise 2: numbers are told by their bits, in texts too.
func TestNumbersAreReadBack(t *testing.T) {
	list := append(seldom(), draws(2000)...)
	for i := 0; i+40 < len(list); i += 40 {
		s, ok := impl.NumbersText(list[i : i+40])
		back, ok2 := impl.ReadNumbers(s)
		if !ok || !ok2 || !sameList(back, list[i:i+40]) {
			t.Errorf("numbers from %d on are not read back: %q", i, s)
		}
		pairs := make([]complex64, 40)
		for k := range pairs {
			pairs[k] = complex(list[i+k], list[i+(k*7+1)%40])
		}
		s, ok = impl.ComplexText(pairs)
		backPairs, ok2 := impl.ReadComplex(s)
		if !ok || !ok2 || !sameComplexList(backPairs, pairs) {
			t.Errorf("complex numbers from %d on are not read back: %q", i, s)
		}
	}
}

func TestReadNumbersRefuses(t *testing.T) {
	texts := append(nearlyRight("3f800000"), nearlyRight("3f800000,c0000000")...)
	texts = append(texts,
		"3F800000", "3f80000", "3f8000000", "03f800000", "-f800000", "+f800000", "3f80000g", "3f80000G",
		"3f80000/", "3f80000:", "3f80000`", "3f80000@", "3f8 0000", "3f80_000", "0x3f8000",
		"3f800000,3F800000", "3f800000,", "3f800000,,3f800000", "3f800000 c0000000", "3f800000;c0000000",
		"3f80000000000000", "\u0663f80000", "3f8000\u00e9", "3f800000\u00e9", "3f80000\xff", "3f8000\xc3\xa9", "\uff13f8000",
		// Bits of a not-a-number that are not its text.
		"7fc00001", "7f800001", "7fffffff", "ff800001", "ffc00000", "ffffffff",
		manyTexts("3f800000", limitOfNumbers+1), strings.Repeat(",", limitOfNumbers), strings.Repeat(",", 1000000),
	)
	for _, s := range texts {
		list, ok := impl.ReadNumbers(s)
		wantFailsList(t, "ReadNumbers of "+strconv.Quote(s[:min(len(s), 40)]), list, ok)
	}
	list, ok := impl.ReadNumbers(manyTexts("3f800000", limitOfNumbers))
	if !ok || !sameList(list, many(float32(1), limitOfNumbers)) {
		t.Errorf("as many as there may be: got %d numbers, %v", len(list), ok)
	}
}

func TestComplexText(t *testing.T) {
	for _, c := range []struct {
		list []complex64
		want string
	}{
		{nil, "none"}, {[]complex64{}, "none"}, {[]complex64{0}, "0000000000000000"}, {[]complex64{1}, "3f80000000000000"},
		{[]complex64{1, complex(0, -2)}, "3f80000000000000,00000000c0000000"},
		{[]complex64{cnum(minusZero, leastNumber)}, "8000000000000001"},
		{[]complex64{cnum(0xffc00001, infinity)}, "7fc000007f800000"},
		{[]complex64{cnum(minusEndless, 0x7f800001)}, "ff8000007fc00000"},
	} {
		s, ok := impl.ComplexText(c.list)
		wantSucceeds(t, "ComplexText", s, ok, c.want)
		list, ok := impl.ReadComplex(c.want)
		if !ok || !sameComplexList(list, c.list) {
			t.Errorf("ReadComplex(%q): got %v, %v", c.want, list, ok)
		}
	}
	s, ok := impl.ComplexText(many(complex64(1), limitOfNumbers))
	wantSucceeds(t, "as many as there may be", s, ok, manyTexts("3f80000000000000", limitOfNumbers))
	s, ok = impl.ComplexText(many(complex64(1), limitOfNumbers+1))
	wantFails(t, "one more", s, ok)
}

func TestReadComplexRefuses(t *testing.T) {
	texts := append(nearlyRight("3f80000000000000"), nearlyRight("3f80000000000000,00000000c0000000")...)
	texts = append(texts,
		"3f800000", "3F80000000000000", "3f8000000000000", "3f800000000000000", "3f800000,00000000",
		"3f800000 00000000", "3f8000000000000F", "3f80000000000000,", "3f80000000000000,3f800000",
		"3f800000ffc00000", "7f80000100000000", "000000007fc00001", "3f80000000000\u00e90", "3f80000000000-00",
		"3f800000\u00e9000000", "3f8000\u00e900000000", "3f80000\u00e90000000",
		manyTexts("3f80000000000000", limitOfNumbers+1), strings.Repeat(",", limitOfNumbers),
	)
	for _, s := range texts {
		list, ok := impl.ReadComplex(s)
		wantFailsList(t, "ReadComplex of "+strconv.Quote(s[:min(len(s), 40)]), list, ok)
	}
	list, ok := impl.ReadComplex(manyTexts("3f80000000000000", limitOfNumbers))
	if !ok || !sameComplexList(list, many(complex64(1), limitOfNumbers)) {
		t.Errorf("as many as there may be: got %d numbers, %v", len(list), ok)
	}
}

func TestIsName(t *testing.T) {
	for _, s := range []string{"a", "z", "ring", "abcdefgh", "zzzzzzzz", "none"} {
		wantBool(t, "IsName of "+s, impl.IsName(s), true)
	}
	for _, s := range []string{"", "abcdefghi", "Ring", "rinG", "ring1", "1", "a b", " a", "a ", "a\n", "a,b", "`", "{", "@", "a_b", "\u00e9", "aaa\u00e9", "\u0251", "\xff", "a\x00", strings.Repeat("a", 1000)} {
		wantBool(t, "IsName of "+strconv.Quote(s), impl.IsName(s), false)
	}
	for b := range 256 {
		wantBool(t, "IsName of a byte", impl.IsName("a"+string([]byte{byte(b)})), b >= 'a' && b <= 'z')
	}
}

func TestDecimal(t *testing.T) {
	for _, c := range []struct {
		n    int64
		want string
	}{
		{0, "0"}, {7, "7"}, {-4, "-4"}, {10, "10"}, {-100, "-100"},
		{impl.MaxValue, "1000000000000000"}, {-impl.MaxValue - 1, "-1000000000000001"},
		{math.MaxInt64, "9223372036854775807"}, {math.MinInt64, "-9223372036854775808"},
	} {
		if got := impl.Decimal(c.n); got != c.want {
			t.Errorf("Decimal(%d): got %q", c.n, got)
		}
	}
}

// notDecimals are texts that are nearly those of numbers.
func notDecimals() []string {
	return []string{
		"", "-", "+", "+1", "-0", "00", "01", "-01", "--1", "1-", "1 ", " 1", "1\n", "1.0", "1e3", "0x1", "1_000", "a", "1a",
		"\u0661", "\uff11", "1\x00", "\xff", "none",
		"1000000000000001", "-1000000000000001", "9007199254740993", "9223372036854775807", "-9223372036854775808",
		"9223372036854775808", "18446744073709551617", "10000000000000000", strings.Repeat("9", 100), strings.Repeat("0", 100) + "1",
	}
}

func TestReadDecimal(t *testing.T) {
	for _, n := range []int64{0, 1, -1, 9, 10, -10, 308, 1 << 40, impl.MaxValue, -impl.MaxValue, impl.MaxValue - 1} {
		got, ok := impl.ReadDecimal(strconv.FormatInt(n, 10))
		wantSucceeds(t, "ReadDecimal", got, ok, n)
	}
	for _, s := range append(notDecimals(), "1,2", "1,") {
		got, ok := impl.ReadDecimal(s)
		wantFails(t, "ReadDecimal of "+strconv.Quote(s), got, ok)
	}
}

func TestListText(t *testing.T) {
	for _, c := range []struct {
		list []int64
		want string
	}{
		{nil, "none"}, {[]int64{}, "none"}, {[]int64{0}, "0"}, {[]int64{1, -2, 30}, "1,-2,30"},
		{[]int64{impl.MaxValue, -impl.MaxValue}, "1000000000000000,-1000000000000000"},
		{many(int64(-5), impl.MaxItems), manyTexts("-5", impl.MaxItems)},
	} {
		s, ok := impl.ListText(c.list)
		wantSucceeds(t, "ListText", s, ok, c.want)
		list, ok := impl.ReadList(c.want)
		if !ok || !slices.Equal(list, c.list) {
			t.Errorf("ReadList(%q): got %v, %v", c.want, list, ok)
		}
	}
	for _, list := range [][]int64{
		many(int64(1), impl.MaxItems+1), {impl.MaxValue + 1}, {-impl.MaxValue - 1},
		{1, 2, math.MaxInt64}, {math.MinInt64, 1}, append(many(int64(1), impl.MaxItems-1), impl.MaxValue+1),
	} {
		s, ok := impl.ListText(list)
		wantFails(t, "ListText", s, ok)
	}
}

func TestReadListRefuses(t *testing.T) {
	texts := append(notDecimals(),
		"1,", ",1", "1,,2", ",", "1, 2", "1;2", "1,-0", "01,2", "1,02", "1,+2", "none,1", "1,none", "none,", "None",
		"1,1000000000000001", "[1,2]", "1,2\n", manyTexts("1", impl.MaxItems+1), strings.Repeat(",", 1000000),
	)
	for _, s := range texts {
		if s == "none" {
			continue // the text of the list without numbers, and of no number
		}
		list, ok := impl.ReadList(s)
		wantFailsList(t, "ReadList of "+strconv.Quote(s[:min(len(s), 40)]), list, ok)
	}
}

func TestCheckOf(t *testing.T) {
	for _, c := range []struct {
		start int64
		s     string
		want  int64
	}{
		{0, "", 0}, {5, "", 5}, {impl.CheckSize - 1, "", impl.CheckSize - 1}, {0, "a", 308}, {0, "\x00", 211}, {0, "\xff", 466},
		{1, "a", 1255}, {impl.CheckSize - 1, "\x00", impl.CheckSize - 947 + 211}, {0, "ab", (308*947 + 98 + 211) % 65003},
		{0, "\u00e9", ((0xc3+211)*947 + 0xa9 + 211) % 65003},
	} {
		n, ok := impl.CheckOf(c.start, c.s)
		wantSucceeds(t, "CheckOf", n, ok, c.want)
	}
	for _, start := range []int64{-1, impl.CheckSize, impl.CheckSize + 1, math.MaxInt64, math.MinInt64} {
		for _, s := range []string{"", "a"} {
			n, ok := impl.CheckOf(start, s)
			wantFails(t, "CheckOf", n, ok)
		}
	}
}

// The check number of a text is that of its end, begun with that of its beginning.
func TestCheckOfParts(t *testing.T) {
	s := "any bytes: \x00\x7f\x80\xff, and so on; " + strings.Repeat("z", 300)
	whole, _ := impl.CheckOf(17, s)
	for i := range len(s) {
		first, _ := impl.CheckOf(17, s[:i])
		n, ok := impl.CheckOf(first, s[i:])
		wantSucceeds(t, "CheckOf the end", n, ok, whole)
	}
}
