package tests

import (
	"strings"
	"testing"

	"loop.example/g01381/impl"
)

func TestPatternExamples(t *testing.T) {
	wantOnly(t, "a row of three", all(impl.WriteRuns(fieldOf("111"))), "3,1:3o!")
	wantOnly(t, "the name of a row of three", all(impl.NameOf(fieldOf("111"))), "1,3:o$o$o!")
	block := fieldOf("11", "11")
	wantOnly(t, "a block of four is still", all(impl.IsStill(conway(), block, false)), true)
	wantOnly(t, "it becomes itself", all(impl.StepLife(conway(), block, false)), block)
	wantOnly(t, "kinds of parts", all(impl.QuarterKinds(evenField(4, 4, 0))), []int64{1, 1, 1})
	count, _ := impl.CountBefore(conway(), block)
	wantBool(t, "a block of four has fields that lead to it", count > 1, true)
}

// The other tests take the limits by their names.
func TestLimitsOfPatterns(t *testing.T) {
	wantAll(t, "the limits of chapter 5", all(impl.MaxText, impl.MaxSmall, impl.MaxKinds, true), 1200, 12, 64)
}

func TestWriteRuns(t *testing.T) {
	for _, f := range patterns() {
		wantOnly(t, named("WriteRuns", f), all(impl.WriteRuns(f)), written(f))
	}
	for _, c := range []struct {
		f    impl.Field
		text string
	}{
		{fieldOf("0"), "1,1:!"}, {fieldOf("1"), "1,1:o!"}, {fieldOf("00"), "2,1:!"}, {fieldOf("01"), "2,1:bo!"},
		{fieldOf("10"), "2,1:o!"}, {fieldOf("11"), "2,1:2o!"}, {fieldOf("0", "0"), "1,2:$!"}, {fieldOf("1", "0", "0"), "1,3:o$$!"},
		{fieldOf("0", "0", "1"), "1,3:$$o!"}, {fieldOf("01", "10"), "2,2:bo$o!"}, {fieldOf("00100110"), "8,1:2bo2b2o!"},
		{evenField(1, 24, 1), "24,1:24o!"}, {evenField(24, 1, 0), "1,24:" + strings.Repeat("$", 23) + "!"},
		{fieldOf("00000000001"), "11,1:10bo!"}, {fieldOf("1111111111011111111111"), "22,1:10ob11o!"},
		{fieldOf("1111111110000000001"), "19,1:9o9bo!"},
	} {
		wantOnly(t, named("WriteRuns", c.f), all(impl.WriteRuns(c.f)), c.text)
		wantOnly(t, "ReadRuns of "+c.text, all(impl.ReadRuns(c.text)), c.f)
	}
	long, _ := impl.WriteRuns(chess(impl.MaxField, impl.MaxField))
	if len(long) != 6+24*23+12+23+1 {
		t.Errorf("the text of a board of chess has %d bytes: %s", len(long), long)
	}
}

// Promise 6: fields are read back as they were written.
func TestFieldsAreReadBack(t *testing.T) {
	for _, f := range patterns() {
		text, _ := impl.WriteRuns(f)
		wantOnly(t, "ReadRuns of "+text, all(impl.ReadRuns(text)), f)
	}
	for _, s := range extents() {
		if s[0]*s[1] > 9 {
			continue
		}
		allFields(s[0], s[1], func(f impl.Field) {
			text, _ := impl.WriteRuns(f)
			wantOnly(t, "ReadRuns of "+text, all(impl.ReadRuns(text)), f)
		})
	}
}

// textsFrom calls each with all texts of at most some of the bytes of a list
// behind a text.
func textsFrom(begin, bytes string, most int, each func(s string)) {
	each(begin)
	if most == 0 {
		return
	}
	for _, b := range bytes {
		textsFrom(begin+string(b), bytes, most-1, each)
	}
}

// No text is read but that of a field.
func TestOtherTexts(t *testing.T) {
	read := 0
	check := func(s string) {
		got, want := all(impl.ReadRuns(s)), readText(s)
		if succeeds(got) {
			read++
		}
		wantEach(t, "ReadRuns of "+s, got, want)
	}
	textsFrom("", "12,:o!$", 6, check)
	textsFrom("2,2:", "012bo$!", 6, check)
	textsFrom("3,1:", "1234bo!", 6, check)
	textsFrom("1,3:", "2ob$!", 7, check)
	if read < 40 {
		t.Errorf("%d texts were read: too few to tell", read)
	}
}

// changesOf returns texts that differ from s by one byte that is gone, another
// one, or one more.
func changesOf(s string) []string {
	var texts []string
	for i := range len(s) + 1 {
		for _, b := range []string{"", "0", "1", "2", "9", "b", "o", "$", "!", ",", ":", " ", "-", "+", "O", "\n", "\xff"} {
			texts = append(texts, s[:i]+b+s[i:])
			if i < len(s) {
				texts = append(texts, s[:i]+b+s[i+1:])
			}
		}
	}
	return texts
}

func TestChangedTexts(t *testing.T) {
	for i, f := range patterns() {
		if i%3 != 0 && f.Rows*f.Columns > 40 || f.Rows*f.Columns > 200 {
			continue
		}
		for _, s := range changesOf(written(f)) {
			wantEach(t, "ReadRuns of "+s, all(impl.ReadRuns(s)), readText(s))
		}
	}
}

func TestTextsThatAreNotRead(t *testing.T) {
	for _, s := range []string{
		"", "!", ":!", ",:!", "1,1", "1,1:", "1,1:o", "1,1!", "1,1:o!!", "1,1:o! ", " 1,1:o!", "1,1:o!\n", "1,1: o!", "1,1:o!1,1:o!",
		"1,1:1o!", "2,1:02o!", "2,1:0b2o!", "2,1:oo!", "2,1:1oo!", "3,1:o2o!", "3,1:2oo!", "4,1:2o2o!", "3,1:bbo!", "3,1:b1bo!",
		"2,1:ob!", "2,1:2b!", "1,1:b!", "2,2:o$b!", "2,2:b$o!", "2,2:bo$ob!", "2,2:2o!", "2,2:2o$2o$!", "2,2:$2o$2o!", "1,1:$!",
		"1,2:!", "1,2:$$!", "1,1:2o!", "2,1:3o!", "2,1:b2o!", "24,1:25o!", "25,1:!", "25,1:25o!", "1,25:" + strings.Repeat("$", 24) + "!",
		"0,1:!", "1,0:!", "0,0:!", "-1,1:!", "1,-1:!", "+1,1:o!", "01,1:o!", "1,01:o!", "1,1:01o!", "1.0,1:o!", "1,1,1:o!", "1,1::o!",
		"1;1:o!", "1,1;o!", "1:1,o!", "1,1:x!", "1,1:O!", "1,1:1!", "2,1:2!", "2,1:-1o!", "2,1:+2o!", "2,1:9223372036854775807o!",
		"2,1:-9223372036854775808o!", "2,1:18446744073709551617o!", "9223372036854775807,1:!", "18446744073709551617,1:o!",
		"1,18446744073709551617:o!", "4294967297,1:o!", "24,24:!", "1,1:o!\x00", "\x001,1:o!", "1,1:\xc3\xb6!", "３,1:3o!",
	} {
		wantNone(t, "ReadRuns of "+s, all(impl.ReadRuns(s)))
	}
	for _, size := range []int{impl.MaxText - 1, impl.MaxText, impl.MaxText + 1, 4 * impl.MaxText} {
		for _, c := range [][3]string{{"24,24:", "$", "!"}, {"1,1:", "o", "!"}, {"1,1:", "0", "o!"}, {"", "1", ",1:o!"}, {"1,1:o!", "!", ""}} {
			s := c[0] + strings.Repeat(c[1], size-len(c[0])-len(c[2])) + c[2]
			wantNone(t, named("ReadRuns of many bytes", size), all(impl.ReadRuns(s)))
		}
	}
}
