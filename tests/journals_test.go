package tests

import (
	"fmt"
	"slices"
	"strings"
	"testing"

	"loop.example/g01381/impl"
)

// journalOf returns the journal of lines, told by the document's words.
func journalOf(lines ...string) string {
	journal, check := "", 0
	for _, line := range lines {
		for i := range len(line) {
			check = (947*check + int(line[i]) + 211) % 65003
		}
		journal += fmt.Sprintf("%d %s\n", check, line)
	}
	return journal
}

// recoveredLines returns the lines of the longest journal with which a text begins,
// by trying all beginnings that end with a newline.
func recoveredLines(text string) ([]string, int64) {
	var lines []string
	var size int64
	for at := range len(text) {
		if text[at] != '\n' {
			continue
		}
		var some []string
		for _, entry := range strings.Split(text[:at], "\n") {
			_, line, _ := strings.Cut(entry, " ")
			some = append(some, line)
		}
		if journalOf(some...) == text[:at+1] {
			lines, size = some, int64(at)+1
		}
	}
	return lines, size
}

// wantJournal checks RecoverJournal and RunJournal of a text that is not too long.
func wantJournal(t *testing.T, text string) ([]string, int64) {
	t.Helper()
	lines, size := recoveredLines(text)
	wantAll(t, named("RecoverJournal", text), all(impl.RecoverJournal(text)), lines, size)
	desk, _ := afterScript(newDesk(), lines)
	wantAll(t, named("RunJournal", text), all(impl.RunJournal(newDesk(), text)), desk, int64(len(lines)))
	return lines, size
}

// linesOfAllKinds are lines that are likely to be told wrongly in a journal.
func linesOfAllKinds() [][]string {
	l := &luck{1087}
	list := [][]string{
		nil, {""}, {"", ""}, {"", "", "", "", ""}, {"ring"}, {"ring", "life"}, {"", "ring"}, {"ring", ""}, {"ring", "", "ring"}, {"ring", "ring", "ring"}, {" "}, {" ", "  ", "   "},
		{" ring"}, {"ring "}, {"  ring  "}, {"1 ring"}, {"0 "}, {"0"}, {"0 0 0"}, {"\x00"}, {"\xff", "\xfe\xff"}, {"\u00e9\u0663\U0001f600"}, {"\r"}, {"ring\r", "\tring"}, {"ring 2", "turn 1", "x", "ring 22"},
		{"-1 x", "+1 x", "00 x"}, {strings.Repeat("a", 300), "b"}, {"step 1", "ring 10101", "step 2", "live 1", "shift 1 1", "number 30", "rule 3,0;120", "life B/S", "least"},
	}
	for range 10 {
		list = append(list, l.lines(1+l.below(12)))
	}
	return list
}

func TestJournalOf(t *testing.T) {
	// The check number of an empty line is that of the line before.
	for _, c := range []struct {
		lines []string
		want  string
	}{
		{nil, ""}, {[]string{}, ""}, {[]string{""}, "0 \n"}, {[]string{"", ""}, "0 \n0 \n"}, {[]string{"\x00"}, "211 \x00\n"}, {[]string{"\x01"}, "212 \x01\n"}, {[]string{"\xff"}, "466 \xff\n"},
		{[]string{"a"}, "308 a\n"}, {[]string{" "}, "243  \n"}, {[]string{"a", ""}, "308 a\n308 \n"}, {[]string{"a", "b"}, "308 a\n31973 b\n"}, {[]string{"ab"}, "31973 ab\n"},
		{[]string{"", "a"}, "0 \n308 a\n"}, {[]string{"ring"}, "64246 ring\n"}, {[]string{"ring", "life"}, "64246 ring\n3200 life\n"},
	} {
		wantOnly(t, named("JournalOf", c.lines), all(impl.JournalOf(c.lines)), c.want)
		if got := journalOf(c.lines...); got != c.want {
			t.Errorf("the journal of %q: got %q, want %q", c.lines, got, c.want)
		}
		wantAll(t, named("RecoverJournal", c.want), all(impl.RecoverJournal(c.want)), c.lines, int64(len(c.want)))
	}
	for _, lines := range linesOfAllKinds() {
		wantOnly(t, named("JournalOf", lines), all(impl.JournalOf(lines)), journalOf(lines...))
	}
	for _, lines := range [][]string{
		{"\n"}, {"a\nb"}, {"ring\n"}, {"\nring"}, {"ring", "\n"}, {"\n", "ring"}, {"ring", "life\n", "x"}, {"a", "b", "c\n"}, {"a\r\n"}, {strings.Repeat("\n", 20000)}, {strings.Repeat("a", 20000) + "\n"},
	} {
		wantNone(t, named("JournalOf", lines), all(impl.JournalOf(lines)))
	}
}

func TestLongJournals(t *testing.T) {
	// A line whose journal has just so many bytes.
	lineFor := func(size int, c string) string {
		for long := size - 8; long < size; long++ {
			if line := strings.Repeat(c, long); len(journalOf(line)) == size {
				return line
			}
		}
		t.Fatalf("no line of %q for %d", c, size)
		return ""
	}
	for _, c := range []string{"a", "b", " ", "\xff"} {
		for _, size := range []int{15999, 16000, 16001, 16002} {
			line := lineFor(size, c)
			got, ok := impl.JournalOf([]string{line})
			if size > impl.MaxScript {
				wantNone(t, fmt.Sprintf("JournalOf with %d bytes", size), all(got, ok))
				wantNone(t, fmt.Sprintf("RecoverJournal with %d bytes", size), all(impl.RecoverJournal(journalOf(line))))
				continue
			}
			wantBool(t, fmt.Sprintf("JournalOf with %d bytes", size), ok && got == journalOf(line), true)
			wantAll(t, fmt.Sprintf("RecoverJournal with %d bytes", size), all(impl.RecoverJournal(got)), []string{line}, int64(size))
		}
	}
	for count, ok := range map[int]bool{5332: true, 5333: true, 5334: false, 5335: false, 100000: false} {
		lines, text := many("", count), strings.Repeat("0 \n", count)
		if !ok {
			wantNone(t, fmt.Sprintf("JournalOf %d empty lines", count), all(impl.JournalOf(lines)))
			wantNone(t, fmt.Sprintf("RecoverJournal of %d empty lines", count), all(impl.RecoverJournal(text)))
			wantNone(t, fmt.Sprintf("RunJournal of %d empty lines", count), all(impl.RunJournal(newDesk(), text)))
			continue
		}
		wantOnly(t, fmt.Sprintf("JournalOf %d empty lines", count), all(impl.JournalOf(lines)), text)
		wantAll(t, fmt.Sprintf("RecoverJournal of %d empty lines", count), all(impl.RecoverJournal(text)), lines, int64(len(text)))
		wantAll(t, fmt.Sprintf("RunJournal of %d empty lines", count), all(impl.RunJournal(newDesk(), text)), newDesk(), int64(count))
	}
	// A text is too long as a whole, though its beginning is a journal.
	journal := journalOf("ring 2", "turn 1")
	for _, more := range []int{16000 - len(journal), 16001 - len(journal), 100000} {
		text := journal + strings.Repeat("x", more)
		if len(text) > impl.MaxScript {
			wantNone(t, fmt.Sprintf("RecoverJournal with %d more", more), all(impl.RecoverJournal(text)))
			wantNone(t, fmt.Sprintf("RunJournal with %d more", more), all(impl.RunJournal(newDesk(), text)))
		} else {
			wantAll(t, fmt.Sprintf("RecoverJournal with %d more", more), all(impl.RecoverJournal(text)), []string{"ring 2", "turn 1"}, int64(len(journal)))
			wantBool(t, fmt.Sprintf("RunJournal with %d more", more), succeeds(all(impl.RunJournal(newDesk(), text))), true)
		}
	}
}

// Promise 9: what is cut off costs no complete line.
func TestJournalsAreCut(t *testing.T) {
	for _, lines := range linesOfAllKinds() {
		journal := journalOf(lines...)
		for at := range len(journal) + 1 {
			got, size := wantJournal(t, journal[:at])
			count := strings.Count(journal[:at], "\n")
			wantEach(t, named("a journal, cut", journal, at), all(got, size), all(lines[:count], int64(len(journalOf(lines[:count]...)))))
		}
	}
}

// Promise 9: where a byte is another one, a beginning is recovered, which is the
// journal of the lines that are returned, and has all lines before this byte.
func TestJournalsAreBent(t *testing.T) {
	for _, lines := range [][]string{{"ring", "life"}, {"", "a", ""}, {" 1 ", "12 x"}, {"ring 2", "turn 1", "x", "ring 22"}, {"\xff\x00", "\u00e9"}} {
		journal := journalOf(lines...)
		for at := range len(journal) {
			before := strings.Count(journal[:at], "\n")
			for other := range 256 {
				bent := journal[:at] + string([]byte{byte(other)}) + journal[at+1:]
				got, size := wantJournal(t, bent)
				what := named("a journal, bent", journal, at, other)
				wantBool(t, what, journalOf(got...) == bent[:size], true)
				wantBool(t, what, len(got) >= before && slices.Equal(got[:before], lines[:before]), true)
				// No other byte goes unnoticed.
				wantBool(t, what, slices.Equal(got, lines), bent == journal)
			}
			for _, bent := range []string{journal[:at] + journal[at+1:], journal[:at+1] + journal[at:], journal[:at] + "\n" + journal[at:], journal[:at] + " " + journal[at:], journal[:at] + "0" + journal[at:]} {
				got, size := wantJournal(t, bent)
				wantBool(t, named("a journal, bent", bent), journalOf(got...) == bent[:size] && len(got) >= before, true)
			}
		}
	}
}

// Lines behind a journal that are none of it.
func TestJournalsWithMore(t *testing.T) {
	for _, lines := range [][]string{nil, {"ring"}, {"ring 2", "turn 1", ""}} {
		journal := journalOf(lines...)
		for _, more := range []string{
			"x", "x\n", "\n", " ", " \n", "0", "0\n", "1 \n", "1 ring\n", "ring\n", "12345 ring\n", "-1 \n", "\x00", "\xff\n", "99999999999999999999 ring\n", "65003 \n", "308 a", "308 a\r\n", "no check\n", "308 zz\nx",
		} {
			got, size := wantJournal(t, journal+more)
			wantEach(t, named("a journal with more", journal, more), all(got, size), all(lines, int64(len(journal))))
		}
		for _, more := range []string{journalOf("ring"), journalOf(""), journalOf("a", "b"), journal, strings.Repeat(journal, 3)} {
			wantJournal(t, journal+more)
			wantJournal(t, more+journal)
		}
	}
}

// Check numbers that are not told as they are.
func TestJournalsWithOtherChecks(t *testing.T) {
	lines := []string{"ring 2", "a", "turn 1"}
	entries := strings.Split(strings.TrimSuffix(journalOf(lines...), "\n"), "\n")
	for i, entry := range entries {
		check, line, _ := strings.Cut(entry, " ")
		for _, other := range []string{
			"+" + check + " " + line, "-" + check + " " + line, "0" + check + " " + line, "00" + check + " " + line, " " + check + " " + line, check + "  " + line, check + "\t" + line, check + line,
			check + ", " + line, check + ".0 " + line, "0x" + check + " " + line, " " + line, line, "0 " + line, "1 " + line, check[1:] + " " + line, check + "0 " + line, entries[(i+1)%3][:2] + " " + line,
			"\u0663 " + line, entry + "\r", "65003 " + line, "-0 " + line,
		} {
			text := scriptOf(slices.Concat(entries[:i], []string{other}, entries[i+1:])...)
			got, size := wantJournal(t, text)
			wantEach(t, named("a journal with another check number", text), all(got, size), all(lines[:i], int64(len(journalOf(lines[:i]...)))))
		}
	}
	// The second line begins with the check number of another line, or of none.
	first, second := journalOf("ring 2"), journalOf("turn 1")
	for _, text := range []string{first + second, first + first, second + first, first + journalOf("x", "turn 1")[len(journalOf("x")):]} {
		got, size := wantJournal(t, text)
		wantBool(t, named("a journal with the line of another one", text), len(got) == 1 && size == int64(strings.Index(text, "\n")+1), true)
	}
	got, _ := wantJournal(t, scriptOf(entries[0], entries[2], entries[1]))
	wantEach(t, "a journal with two lines exchanged", all(got), all(lines[:1]))
}

func TestRunJournal(t *testing.T) {
	for _, d := range drawnDesks(1091) {
		for _, lines := range linesOfAllKinds() {
			journal := journalOf(lines...)
			want, _ := afterScript(d, lines)
			got := all(impl.RunJournal(d, journal))
			wantAll(t, named("RunJournal", d, journal), got, want, int64(len(lines)))
			wantOwnMemory(t, named("RunJournal", d, journal), all(d), got)
			desk, _, _ := impl.RunDesk(d, scriptOf(lines...))
			wantAll(t, named("RunJournal and RunDesk", d, journal), got, desk, int64(len(lines)))
		}
	}
	d := newDesk()
	for _, text := range []string{"", "x", "\n", "0", "ring\n", "1 ring\n"} {
		wantAll(t, named("RunJournal", text), all(impl.RunJournal(d, text)), d, int64(0))
		wantAll(t, named("RecoverJournal", text), all(impl.RecoverJournal(text)), []string(nil), int64(0))
	}
	ringOf2 := newDesk()
	ringOf2.Ring = []int64{2}
	wantAll(t, "RunJournal of a journal that is cut", all(impl.RunJournal(d, journalOf("ring 2", "turn 1", "ring 1")[:30])), ringOf2, int64(2))
}

// Texts of any bytes begin with some journal.
func TestJournalsOfAnyBytes(t *testing.T) {
	l := &luck{1093}
	for range 3000 {
		text := ""
		for range l.below(12) {
			text += []string{"0", "1", "308", "211", " ", " ", "\n", "\n", "a", "\x00", "0 \n", "308 a\n", "x"}[l.below(13)]
		}
		wantJournal(t, text)
	}
}
