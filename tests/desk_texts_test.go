package tests

import (
	"slices"
	"strings"
	"testing"

	"loop.example/g01381/impl"
)

// readers are the functions that read texts, and what they return, told by the forms
// of the texts.
func readers(s string) map[string][2][]any {
	r, ruleOk := readRuleText(s)
	ring, ringOk := readRingText(s)
	f, fieldOk := readFieldText(s)
	w, lifeOk := readLifeText(s)
	return map[string][2][]any{
		"ReadRule":  {all(impl.ReadRule(s)), all(r, ruleOk)},
		"ReadRing":  {all(impl.ReadRing(s)), all(ring, ringOk)},
		"ReadField": {all(impl.ReadField(s)), all(f, fieldOk)},
		"ReadLife":  {all(impl.ReadLife(s)), all(w, lifeOk)},
	}
}

// wantRead checks all functions that read texts, of one text, and returns how many
// of them succeed.
func wantRead(t *testing.T, s string) int {
	t.Helper()
	count := 0
	for name, c := range readers(s) {
		got, want := c[0], c[1]
		if !succeeds(want) {
			wantNone(t, named(name, s), got)
			continue
		}
		count++
		wantEach(t, named(name, s), got, want)
		wantOwnMemory(t, named(name, s), nil, got)
	}
	return count
}

// bentTexts returns texts that differ a little from s: those that are cut, those
// without a byte, or with a byte more, and with another one, at each place.
func bentTexts(s string) []string {
	bytes := "0123459-+,;/BS bs:.x\n\x00\xff\u00b9\u0663"
	texts := nearlyRight(s)
	for at := range len(s) + 1 {
		texts = append(texts, s[:at], s[at:])
		for i := range len(bytes) {
			texts = append(texts, s[:at]+bytes[i:i+1]+s[at:])
		}
		if at < len(s) {
			texts = append(texts, s[:at]+s[at+1:], s[:at+1]+s[at:])
			for i := range 256 {
				texts = append(texts, s[:at]+string([]byte{byte(i)})+s[at+1:])
			}
		}
	}
	return texts
}

func TestRuleText(t *testing.T) {
	for _, c := range []struct {
		r    impl.Rule
		want string
	}{
		{impl.Rule{States: 2, Reach: 0, Table: []int64{0, 1}}, "2,0;01"},
		{impl.Rule{States: 2, Reach: 0, Table: []int64{1, 0}}, "2,0;10"},
		{impl.Rule{States: 3, Reach: 0, Table: []int64{2, 0, 1}}, "3,0;201"},
		{ruleNumber(t, 90), "2,1;01011010"}, {ruleNumber(t, 0), "2,1;00000000"}, {ruleNumber(t, 255), "2,1;11111111"},
		{ruleNumber(t, 1), "2,1;10000000"}, {ruleNumber(t, 128), "2,1;00000001"},
		{impl.Rule{States: 2, Reach: 2, Table: many(int64(1), 32)}, "2,2;" + strings.Repeat("1", 32)},
		{impl.Rule{States: 3, Reach: 1, Table: many(int64(2), 27)}, "3,1;" + strings.Repeat("2", 27)},
		{impl.Rule{States: 3, Reach: 2, Table: many(int64(0), 243)}, "3,2;" + strings.Repeat("0", 243)},
	} {
		wantOnly(t, named("RuleText", c.r), all(impl.RuleText(c.r)), c.want)
		wantOnly(t, named("ReadRule", c.want), all(impl.ReadRule(c.want)), c.r)
		wantBool(t, named("texts", c.want), wantRead(t, c.want) == 1, true)
	}
	for _, r := range drawnRules(20) {
		wantOnly(t, named("RuleText", r), all(impl.RuleText(r)), textOfRule(r))
		wantOnly(t, named("ReadRule", r), all(impl.ReadRule(textOfRule(r))), r)
	}
	for _, r := range badRules() {
		wantNone(t, named("RuleText", r), all(impl.RuleText(r)))
	}
}

func TestReadRuleRefuses(t *testing.T) {
	for _, s := range []string{"2,0;01", "3,0;012", "2,1;01011010", "3,1;" + strings.Repeat("012", 9)} {
		fine := 0
		for _, text := range bentTexts(s) {
			wantRead(t, text)
			fine += boolNumber(succeeds(all(impl.ReadRule(text))))
		}
		wantBool(t, named("bent texts are read", s), fine > 0, true)
	}
	for _, s := range []string{
		"", ";", "2,0", "2,0;", ";01", "2;01", "2,0,0;01", "2,0,;01", ",0;01", "2,;01", "0,2;01", "none;01", "none", "01", "2,0;01;", "2,0;01;01", "2,0,01",
		"02,0;01", "2,00;01", "+2,0;01", "2,+0;01", "2,-0;01", "-2,0;01", "2,-1;01", "2,-1;0", "2,-1;", "2, 0;01", "2,0; 01", " 2,0;01", "2,0;01 ", "2,0;01\n", "2.0;01",
		"2,0;02", "2,0;0", "2,0;012", "2,0;001", "3,0;013", "3,0;01", "3,0;0120", "1,0;0", "4,0;0123", "0,0;", "2,0;ab", "2,0;0b", "2,0;-1", "2,0;0\u0661", "2,0;0\xff", "2,0;0,1",
		"2,1;0101101", "2,1;010110100", "2,1;01011012", "2,2;" + strings.Repeat("0", 31), "2,2;" + strings.Repeat("0", 33), "2,3;" + strings.Repeat("0", 128),
		"3,2;" + strings.Repeat("0", 242), "3,2;" + strings.Repeat("0", 244), "3,2;" + strings.Repeat("0", 242) + "3", "3,3;" + strings.Repeat("0", 2187),
		"1000000000000000,0;01", "9223372036854775807,0;01", "18446744073709551618,0;01", "2,9223372036854775807;01", "2,4294967296;01", "4294967298,0;01",
		"010", "B3/S23", "2,0;01/S", strings.Repeat("2,", 100) + "0;01", strings.Repeat(";", 1000),
	} {
		wantRead(t, s)
		wantNone(t, named("ReadRule", s), all(impl.ReadRule(s)))
	}
}

func TestRingText(t *testing.T) {
	for s, ring := range map[string][]int64{
		"0": {0}, "1": {1}, "2": {2}, "20": {2, 0}, "02": {0, 2}, "010": {0, 1, 0}, "2222": {2, 2, 2, 2}, "0000001": {0, 0, 0, 0, 0, 0, 1},
		strings.Repeat("12", 32): slices.Repeat([]int64{1, 2}, 32), strings.Repeat("0", 63): many(int64(0), 63),
	} {
		wantOnly(t, named("RingText", ring), all(impl.RingText(ring)), s)
		wantOnly(t, named("ReadRing", s), all(impl.ReadRing(s)), ring)
		wantBool(t, named("texts", s), wantRead(t, s) == 1, true)
	}
	for states := int64(2); states <= 3; states++ {
		for _, ring := range drawnRings(states) {
			wantOnly(t, named("RingText", ring), all(impl.RingText(ring)), textOf(ring))
			wantOnly(t, named("ReadRing", ring), all(impl.ReadRing(textOf(ring))), ring)
		}
	}
	for _, ring := range badRings(3) {
		wantNone(t, named("RingText", ring), all(impl.RingText(ring)))
	}
}

func TestReadRingRefuses(t *testing.T) {
	for _, s := range []string{"0", "12", "2010"} {
		for _, text := range bentTexts(s) {
			wantRead(t, text)
		}
	}
	for _, s := range []string{
		"", " ", "3", "9", "03", "30", "0 1", " 01", "01 ", "01\n", "\n01", "0,1", "-1", "+1", "01-", "a", "0a", "none", "0;1", "0\x001", "\xff", "0\u0661", "\u0661", "\uff11", "0\xb1",
		strings.Repeat("0", 65), strings.Repeat("0", 66), strings.Repeat("0", 128), strings.Repeat("0", 63) + "3", strings.Repeat("0", 576), strings.Repeat("0", 577),
	} {
		wantRead(t, s)
		wantNone(t, named("ReadRing", s), all(impl.ReadRing(s)))
	}
}

func TestFieldText(t *testing.T) {
	for _, c := range []struct {
		f    impl.Field
		want string
	}{
		{fieldOf("0"), "1,1;0"}, {fieldOf("9"), "1,1;9"}, {fieldOf("50"), "1,2;50"}, {fieldOf("5", "0"), "2,1;50"},
		{fieldOf("000", "111", "000"), "3,3;000111000"}, {fieldOf("0123456789"), "1,10;0123456789"}, {fieldOf("12", "34", "56"), "3,2;123456"},
		{evenField(24, 24, 9), "24,24;" + strings.Repeat("9", 576)}, {evenField(1, 24, 3), "1,24;" + strings.Repeat("3", 24)},
	} {
		wantOnly(t, named("FieldText", c.f), all(impl.FieldText(c.f)), c.want)
		wantOnly(t, named("ReadField", c.want), all(impl.ReadField(c.want)), c.f)
	}
	for _, f := range append(drawnFields(997, 1), drawnFields(1009, impl.MaxCell)...) {
		wantOnly(t, named("FieldText", f), all(impl.FieldText(f)), textOfField(f))
		wantOnly(t, named("ReadField", f), all(impl.ReadField(textOfField(f))), f)
	}
	for _, f := range badFields() {
		wantNone(t, named("FieldText", f), all(impl.FieldText(f)))
	}
}

func TestReadFieldRefuses(t *testing.T) {
	for _, s := range []string{"1,1;0", "1,2;50", "2,3;012345", "10,1;9876543210"} {
		for _, text := range bentTexts(s) {
			wantRead(t, text)
		}
	}
	for _, s := range []string{
		"", ";", "1,1", "1,1;", ";0", "1;0", "1,1,1;0", "1,1,;0", ",1;0", "1,;0", "none;0", "1,1;0;", "1,1;00", "1,2;0", "2,1;0", "1,2;012", "2,2;000", "2,2;00000",
		"01,1;0", "1,01;0", "+1,1;0", "1,+1;0", "-1,1;0", "1,-1;0", "-1,-1;0", "0,0;", "0,1;", "1,0;", "0,1;0", "1, 1;0", "1,1; 0", " 1,1;0", "1,1;0 ", "1,1;0\n", "1,1;-1", "1,1;a",
		"1,1;:", "1,1;/", "1,1;\u0661", "1,1;\xff", "1,2;0,0", "25,1;" + strings.Repeat("0", 25), "1,25;" + strings.Repeat("0", 25), "24,25;" + strings.Repeat("0", 600),
		"24,24;" + strings.Repeat("0", 575), "24,24;" + strings.Repeat("0", 577), "24,24;" + strings.Repeat("0", 575) + "a", "25,24;" + strings.Repeat("0", 576),
		"9223372036854775807,1;0", "4294967297,1;0", "1,4294967297;0", "4294967296,4294967296;", "18446744073709551617,1;0", "1,1;" + strings.Repeat("0", 100000),
		strings.Repeat("1,", 64) + "1;0", "B3/S23", "010",
	} {
		wantRead(t, s)
		wantNone(t, named("ReadField", s), all(impl.ReadField(s)))
	}
}

func TestLifeText(t *testing.T) {
	for s, w := range map[string]impl.Life{
		"B/S": {}, "B0/S": {Born: []int64{0}}, "B/S8": {Stay: []int64{8}}, "B3/S23": conway(), "B36/S23": {Born: []int64{3, 6}, Stay: []int64{2, 3}},
		"B1/S08": {Born: []int64{1}, Stay: []int64{0, 8}}, "B012345678/S012345678": {Born: cellsOf("012345678"), Stay: cellsOf("012345678")},
		"B/S012345678": {Stay: cellsOf("012345678")}, "B2/S": {Born: []int64{2}},
	} {
		wantOnly(t, named("LifeText", w), all(impl.LifeText(w)), s)
		wantOnly(t, named("ReadLife", s), all(impl.ReadLife(s)), w)
		wantBool(t, named("texts", s), wantRead(t, s) == 1, true)
	}
	// All lists of neighbours are those of a number with 9 binary digits.
	listOf := func(n int) []int64 {
		var list []int64
		for i := range 9 {
			if n>>i&1 == 1 {
				list = append(list, int64(i))
			}
		}
		return list
	}
	for n := range 512 {
		for _, w := range []impl.Life{{Born: listOf(n)}, {Stay: listOf(n)}, {Born: listOf(n), Stay: listOf(n * 37 % 512)}} {
			wantOnly(t, named("LifeText", w), all(impl.LifeText(w)), textOfLife(w))
			wantOnly(t, named("ReadLife", w), all(impl.ReadLife(textOfLife(w))), w)
		}
	}
	for _, w := range append(goodLives(), badLives()...) {
		if got := all(impl.LifeText(w)); impl.ValidLife(w) {
			wantOnly(t, named("LifeText", w), got, textOfLife(w))
		} else {
			wantNone(t, named("LifeText", w), got)
		}
	}
}

func TestReadLifeRefuses(t *testing.T) {
	for _, s := range []string{"B/S", "B3/S23", "B08/S1", "B012345678/S"} {
		for _, text := range bentTexts(s) {
			wantRead(t, text)
		}
	}
	for _, s := range []string{
		"", "B", "S", "/", "B3", "S23", "BS", "B3S23", "B/", "/S", "B3/", "/S23", "B3/23", "3/S23", "3/23", "S/B", "S23/B3", "B/B", "S/S", "b3/s23", "B3/s23", "b3/S23",
		"B32/S23", "B3/S32", "B33/S23", "B3/S233", "B3/S22", "B9/S", "B/S9", "B89/S", "B/S89", "B10/S", "B3/S23/", "B3/S23/S", "/B3/S23", "B3//S23", "B3/S23 ", " B3/S23", "B 3/S23",
		"B3 /S23", "B3/ S23", "B3/S 23", "B3/S23\n", "\nB3/S23", "B3/S23\x00", "B3,6/S2,3", "B-1/S", "B+1/S", "B03/S230", "BB3/S23", "B3/SS23", "B3/S2S3", "B\u0663/S23", "B3/S\xff", "B\xff/S",
		"B3\\S23", "B3/S2a", "Ba/S", "none", "B0123456788/S", "B012345678/S0123456788", "B" + strings.Repeat("0", 1000) + "/S", "B/S" + strings.Repeat("8", 577), "010", "2,0;01",
	} {
		wantRead(t, s)
		wantNone(t, named("ReadLife", s), all(impl.ReadLife(s)))
	}
}

// Texts of parts of drawn desks are cut at each place, and have a wrong byte at each.
func TestTextsOfPartsAreCut(t *testing.T) {
	for _, d := range drawnDesks(1013) {
		for _, s := range []string{textOfRule(d.Rule), textOf(d.Ring), textOfField(d.Field), textOfLife(d.Life)} {
			wantRead(t, s)
			for at := range min(len(s), 60) {
				wantRead(t, s[:at])
				wantRead(t, s[:at]+"x"+s[at+1:])
				wantRead(t, s[:at]+"2"+s[at+1:])
			}
		}
	}
}

// Long texts are read, or refused, as well.
func TestLongTexts(t *testing.T) {
	for _, s := range []string{"0", "1,", ";", "/", "B", "B/S", "2,0;01", "\n", "\xff", " "} {
		wantRead(t, strings.Repeat(s, 200000))
	}
	for _, head := range []string{"2,0;", "24,24;", "B", "B/S"} {
		wantBool(t, "a long text is read", wantRead(t, head+strings.Repeat("0", 3000000)) == 0, true)
	}
}
