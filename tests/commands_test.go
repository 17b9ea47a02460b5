package tests

import (
	"fmt"
	"slices"
	"strings"
	"testing"

	"loop.example/g01381/impl"
)

// deskWith returns a new desk behind lines that are all answered with ok.
func deskWith(t *testing.T, lines ...string) impl.Desk {
	t.Helper()
	d, outputs, ok := impl.RunDesk(impl.NewDesk(), scriptOf(lines...))
	if want := strings.Repeat("ok\n", len(lines)); !ok || outputs != want {
		t.Fatalf("%q: got %q, %v", lines, outputs, ok)
	}
	return d
}

// deskCase is a line at the desk behind some lines, its output, and a line by which
// the part is told that may be another one then, with what this outputs.
type deskCase struct {
	before           []string
	line, output     string
	part, partOutput string
}

// wantCase checks one line: the parts that it does not change stay.
func wantCase(t *testing.T, c deskCase) {
	t.Helper()
	d := deskWith(t, c.before...)
	next, output, ok := impl.DeskCommand(d, c.line)
	if !ok || output != c.output {
		t.Errorf("%q behind %q: got %q, %v, want %q", c.line, c.before, output, ok, c.output)
	}
	wantLine(t, d, c.line)
	for _, part := range []string{"rule", "ring", "field", "life"} {
		_, want, _ := impl.DeskCommand(d, part)
		if part == c.part {
			want = c.partOutput
		}
		if _, got, _ := impl.DeskCommand(next, part); got != want {
			t.Errorf("%q behind %q: the %s is %q, want %q", c.line, c.before, part, got, want)
		}
	}
}

func TestLinesOfRules(t *testing.T) {
	cyclic := "3,0;120"
	for _, c := range []deskCase{
		{nil, "rule", "2,1;01011010", "", ""},
		{nil, "rule 2,0;10", "ok", "rule", "2,0;10"},
		{nil, "rule 3,0;210", "ok", "rule", "3,0;210"},
		{nil, "rule 2,1;01011010", "ok", "", ""},
		{nil, "rule 2,0;12", "no", "", ""},
		{nil, "number", "90", "", ""},
		{nil, "number 0", "ok", "rule", "2,1;00000000"},
		{nil, "number 1", "ok", "rule", "2,1;10000000"},
		{nil, "number 170", "ok", "rule", "2,1;01010101"},
		{nil, "number 255", "ok", "rule", "2,1;11111111"},
		{nil, "number 256", "no", "", ""},
		{nil, "number -1", "no", "", ""},
		{[]string{"rule " + cyclic}, "number", "no", "", ""},
		{[]string{"rule 2,0;01"}, "number", "no", "", ""},
		{[]string{"rule " + cyclic}, "number 90", "ok", "rule", "2,1;01011010"},
		{[]string{"number 170"}, "mirror", "ok", "rule", "2,1;00001111"},
		{nil, "mirror", "ok", "", ""},
		{nil, "opposite", "ok", "rule", "2,1;10100101"},
		{[]string{"rule " + cyclic}, "mirror", "ok", "", ""},
		{[]string{"rule 3,0;100"}, "opposite", "ok", "rule", "3,0;221"},
		{[]string{"number 204"}, "opposite", "ok", "", ""},
		{[]string{"number 240", "mirror"}, "number", "170", "", ""},
	} {
		wantCase(t, c)
	}
}

func TestLinesOfRings(t *testing.T) {
	for _, c := range []deskCase{
		{nil, "ring", "010", "", ""},
		{nil, "ring 2", "ok", "ring", "2"},
		{nil, "ring 0", "ok", "ring", "0"},
		{nil, "ring 010", "ok", "", ""},
		{nil, "ring 013", "no", "", ""},
		{nil, "ring " + strings.Repeat("1", 64), "ok", "ring", strings.Repeat("1", 64)},
		{nil, "ring " + strings.Repeat("1", 65), "no", "", ""},
		{nil, "step 0", "ok", "", ""},
		{nil, "step 1", "ok", "ring", "101"},
		{nil, "step 1000", "ok", "ring", "101"},
		{nil, "step 1001", "no", "", ""},
		{nil, "step -1", "no", "", ""},
		{[]string{"number 170", "ring 01000"}, "step 1", "ok", "ring", "10000"},
		{[]string{"number 240", "ring 01000"}, "step 2", "ok", "ring", "00010"},
		// A ring with a 2 has no steps of a rule with 2 states.
		{[]string{"ring 012"}, "step 1", "no", "", ""},
		{[]string{"ring 012"}, "step 0", "no", "", ""},
		{[]string{"ring 012"}, "period 9", "no", "", ""},
		{[]string{"ring 012", "rule 3,0;120"}, "step 1", "ok", "ring", "120"},
		{nil, "period 9", "1,1", "", ""},
		{nil, "period 2", "1,1", "", ""},
		{nil, "period 1", "no", "", ""},
		{nil, "period 0", "no", "", ""},
		{nil, "period 4096", "1,1", "", ""},
		{nil, "period 4097", "no", "", ""},
		{[]string{"ring 012", "rule 3,0;120"}, "period 3", "0,3", "", ""},
		{[]string{"ring 012", "rule 3,0;120"}, "period 2", "no", "", ""},
		{nil, "turn 0", "ok", "", ""},
		{nil, "turn 1", "ok", "ring", "100"},
		{nil, "turn 2", "ok", "ring", "001"},
		{nil, "turn 3", "ok", "", ""},
		{nil, "turn 64", "ok", "ring", "100"},
		{nil, "turn 65", "no", "", ""},
		{nil, "turn -1", "no", "", ""},
		{[]string{"ring 0120"}, "turn 1", "ok", "ring", "1200"},
		{nil, "least", "ok", "ring", "001"},
		{[]string{"ring 2102"}, "least", "ok", "ring", "0221"},
		{[]string{"ring 001"}, "least", "ok", "", ""},
		{nil, "words 1", "2,1,0", "", ""},
		{nil, "words 2", "1,1,0,1,0,0,0,0,0", "", ""},
		{[]string{"ring 22"}, "words 2", "0,0,0,0,0,0,0,0,2", "", ""},
		{[]string{"ring 0"}, "words 3", "1" + strings.Repeat(",0", 26), "", ""},
		{nil, "words 0", "no", "", ""},
		// There are 81 words of 4 cells, and no texts of so many numbers.
		{nil, "words 4", "no", "", ""},
		{nil, "words 5", "no", "", ""},
	} {
		wantCase(t, c)
	}
}

func TestLinesOfFields(t *testing.T) {
	for _, c := range []deskCase{
		{nil, "field", "3,3;000111000", "", ""},
		{nil, "field 1,2;50", "ok", "field", "1,2;50"},
		{nil, "field 2,1;50", "ok", "field", "2,1;50"},
		{nil, "field 3,3;000111000", "ok", "", ""},
		{nil, "field 2,2;501", "no", "", ""},
		{nil, "cells 0", "6", "", ""},
		{nil, "cells 1", "3", "", ""},
		{nil, "cells 9", "0", "", ""},
		{nil, "cells 10", "0", "", ""},
		{nil, "cells -1", "0", "", ""},
		{nil, "cells 1000000000000000", "0", "", ""},
		{nil, "cells -1000000000000000", "0", "", ""},
		{nil, "cells 1000000000000001", "no", "", ""},
		{nil, "cells -1000000000000001", "no", "", ""},
		{[]string{"field 2,3;939493"}, "cells 9", "3", "", ""},
		{nil, "clusters", "1", "", ""},
		{[]string{"field 1,5;10121"}, "clusters", "3", "", ""},
		{[]string{"field 2,2;1001"}, "clusters", "2", "", ""},
		{[]string{"field 1,1;0"}, "clusters", "0", "", ""},
		{nil, "through", "never", "", ""},
		{[]string{"field 1,2;01"}, "through", "yes", "", ""},
		{[]string{"field 2,2;1001"}, "through", "never", "", ""},
		{[]string{"field 3,2;100110"}, "through", "never", "", ""},
		{[]string{"field 3,2;100110", "field 3,2;101101"}, "through", "yes", "", ""},
		{nil, "settle", "0", "", ""},
		{[]string{"field 1,2;50"}, "settle", "1", "field", "1,2;11"},
		{[]string{"field 1,1;9"}, "settle", "2", "field", "1,1;1"},
		{[]string{"field 1,1;4"}, "settle", "1", "field", "1,1;0"},
		{nil, "burn", "0", "", ""},
		{[]string{"field 1,3;210"}, "burn", "2", "field", "1,3;000"},
		{[]string{"field 1,4;2119"}, "burn", "3", "field", "1,4;0009"},
		{nil, "shift 0 0", "ok", "", ""},
		{nil, "shift 0 1", "ok", "", ""},
		{nil, "shift 1 0", "ok", "field", "3,3;000000111"},
		{nil, "shift -1 0", "ok", "field", "3,3;111000000"},
		{nil, "shift 24 -24", "ok", "", ""},
		{nil, "shift 25 0", "no", "", ""},
		{nil, "shift 0 25", "no", "", ""},
		{nil, "shift 0 -25", "no", "", ""},
		{nil, "shift 1 x", "no", "", ""},
		{nil, "shift x 1", "no", "", ""},
		{[]string{"field 2,3;123456"}, "shift 0 1", "ok", "field", "2,3;312645"},
		{[]string{"field 2,3;123456"}, "shift 1 -1", "ok", "field", "2,3;564231"},
	} {
		wantCase(t, c)
	}
}

func TestLinesOfLives(t *testing.T) {
	glider := "field 6,6;010000001000111000000000000000000000"
	mirrored := "field 6,6;000010000100000111000000000000000000"
	for _, c := range []deskCase{
		{nil, "life", "B3/S23", "", ""},
		{nil, "life B/S", "ok", "life", "B/S"},
		{nil, "life B2/S", "ok", "life", "B2/S"},
		{nil, "life B/S08", "ok", "life", "B/S08"},
		{nil, "life B3/S23", "ok", "", ""},
		{nil, "life S23/B3", "no", "", ""},
		{nil, "life B9/S", "no", "", ""},
		{nil, "life B33/S23", "no", "", ""},
		{nil, "life B3/S32", "no", "", ""},
		{nil, "live 0", "ok", "", ""},
		{nil, "live 1", "ok", "field", "3,3;111111111"},
		{nil, "live 2", "ok", "field", "3,3;000000000"},
		{nil, "live 512", "ok", "field", "3,3;000000000"},
		{nil, "live 513", "no", "", ""},
		{nil, "live -1", "no", "", ""},
		{[]string{glider}, "live 4", "ok", "field", "6,6;000000001000000100011100000000000000"},
		{[]string{"field 1,2;12"}, "live 1", "no", "", ""},
		{[]string{"field 1,2;12"}, "live 0", "no", "", ""},
		{[]string{"field 1,2;12"}, "still", "no", "", ""},
		{[]string{"field 1,2;12"}, "move 1", "no", "", ""},
		{[]string{"life B/S"}, "live 1", "ok", "field", "3,3;000000000"},
		{[]string{"life B/S012345678"}, "still", "yes", "", ""},
		{nil, "still", "never", "", ""},
		{[]string{"field 4,4;0000011001100000"}, "still", "yes", "", ""},
		// Round and round, a field of one cell is its own neighbour, eight times.
		{[]string{"field 1,1;1"}, "still", "never", "", ""},
		{[]string{"field 1,1;1", "life B/S8"}, "still", "yes", "", ""},
		{nil, "move 9", "no", "", ""},
		{[]string{glider}, "move 512", "4,1,1", "", ""},
		{[]string{glider}, "move 4", "4,1,1", "", ""},
		{[]string{mirrored}, "move 4", "4,1,5", "", ""},
		{[]string{glider}, "move 3", "no", "", ""},
		{[]string{glider}, "move 0", "no", "", ""},
		{[]string{glider}, "move 513", "no", "", ""},
		{[]string{glider, "life B/S012345678"}, "move 1", "1,0,0", "", ""},
	} {
		wantCase(t, c)
	}
}

// Lines with too few or too many words, with blanks, and with other first words.
func TestLinesThatAreNone(t *testing.T) {
	lines := []string{
		"", " ", "  ", "   ", "\n", "\t", "\x00", "\xff", "what", "no", "ok", "yes", "never", "help", "rings", "rin", "Ring", "RING", "ring\n", "\nring", "ring\t", "\tring", "ring\x00", "ring\xff",
		" ring", "  ring", "ring  ", "ring  010", " ring 010", "ring 010 ", "ring 010  ", "ring 0 1", "ring 010 010", "rule 2,0;01 ", "rule 2,0; 01", "field 1,1;0 0", "life B3/S23 x",
		"number 90 ", "number  90", "number 90 90", "step", "step 1 ", "step  1", "step 1 1", "steps 1", "step\t1", "step\n1", "step,1", "step1", "period", "period 9 ", "period 9 9", "turn", "turn 1 1",
		"words", "words 1 1", "live", "live 1 1", "move", "move 1 1", "cells", "cells 1 1", "cells 1 ", "mirror ", "mirror 1", " mirror", "opposite ", "opposite x", "least ", "least 1", "still ", "still 1",
		"clusters ", "clusters 1", "through ", "through x", "settle ", "settle 1", "burn ", "burn 1", "shift", "shift 1", "shift 1 ", "shift  1", "shift 1 1 ", "shift 1 1 1", "shift  1 1", "shift 1  1", " shift 1 1",
		"shift   ", "shift    ", "ring ring ring ring ring", strings.Repeat(" ", 5000), strings.Repeat("ring ", 5000), strings.Repeat("ring", 5000), "ring" + strings.Repeat(" ", 5000), "1", "90", "010", "B3/S23",
		"r\u00efng", "ring\u00a0010", "\ufeffring", "ring\r", "step 1\r 1", "number\n90", "Rule", "LIFE", "Step 1", "NewDesk", "undo",
	}
	for _, d := range drawnDesks(1019)[:4] {
		for _, line := range lines {
			next, output, ok := impl.DeskCommand(d, line)
			want := "what"
			// These have the form of a line, with words that are empty.
			if line == "shift 1 " || line == "shift  1" {
				want = "no"
			}
			wantAll(t, named("DeskCommand", line), all(next, output, ok), d, want)
			wantLine(t, d, line)
		}
	}
}

// Lines of each form with a word that is not what it must be.
func TestLinesThatAreRefused(t *testing.T) {
	d := newDesk()
	for _, name := range strings.Fields("rule ring field life number step period turn words live move cells") {
		for _, word := range []string{"", "x", "\n", "\t", "-", "+1", "-0", "00", "01", "1.0", "1\n", "\n1", "1\r", "1\t", "1\x00", "\xff", "\u0661", "1,", "9223372036854775807", "9223372036854775808", "-9223372036854775808", "-9223372036854775809", "18446744073709551617", "1000000000000001", "-1000000000000001", "99999999999999999999999999"} {
			// Some of these are rings.
			if _, ok := readRingText(word); name == "ring" && ok {
				continue
			}
			next, output, ok := impl.DeskCommand(d, name+" "+word)
			wantAll(t, named("DeskCommand", name, word), all(next, output, ok), d, "no")
			if name != "rule" && name != "ring" && name != "field" && name != "life" {
				next, output, ok = impl.DeskCommand(d, "shift 1 "+word)
				wantAll(t, named("shift with a second word", word), all(next, output, ok), d, "no")
				next, output, ok = impl.DeskCommand(d, "shift "+word+" 1")
				wantAll(t, named("shift with a first word", word), all(next, output, ok), d, "no")
			}
		}
	}
}

// Every first word with every kind of words behind it, at desks of all kinds.
func TestLinesOfAllForms(t *testing.T) {
	names := append(firstWords(), "", "what", "rings", "Ring")
	for i, d := range drawnDesks(1021) {
		for _, name := range names {
			wantLine(t, d, name)
			for k, word := range oddWords() {
				// Each desk takes a part of the words, but the first one all of them.
				if i == 0 || (i+k)%5 == 0 {
					wantLine(t, d, name+" "+word)
				}
				if (i+k)%11 == 0 {
					wantLine(t, d, name+" "+word+" "+word)
					wantLine(t, d, name+" "+word+" 1 1")
				}
			}
		}
	}
}

func TestShiftsOfAllWords(t *testing.T) {
	d := newDesk()
	d.Field = (&luck{1031}).field(5, 7, impl.MaxCell)
	for _, first := range oddWords() {
		for _, second := range oddWords() {
			wantLine(t, d, "shift "+first+" "+second)
		}
	}
}

// wantLeast checks from where to where a line takes numbers.
func wantLeast(t *testing.T, d impl.Desk, line string, least, most int64) {
	t.Helper()
	for _, n := range []int64{least - 1, least, least + 1, most - 1, most, most + 1} {
		_, output, ok := impl.DeskCommand(d, strings.ReplaceAll(line, "N", fmt.Sprint(n)))
		if refused := output == "no"; !ok || refused != (n < least || n > most) {
			t.Errorf("%s with %d: got %q, %v", line, n, output, ok)
		}
	}
}

func TestLimitsOfLines(t *testing.T) {
	d := deskWith(t, "ring 0", "number 204", "field 4,4;0000011001100000")
	for line, limits := range map[string][2]int64{
		"number N": {0, 255}, "step N": {0, 1000}, "period N": {1, 4096}, "turn N": {0, 64}, "words N": {1, 3}, "live N": {0, 512}, "move N": {1, 512},
		"shift N 0": {-24, 24}, "shift 0 N": {-24, 24}, "shift N N": {-24, 24}, "cells N": {-1000000000000000, 1000000000000000},
	} {
		wantLeast(t, d, line, limits[0], limits[1])
	}
}

// A line that is answered with no or what changes nothing, nor does one that tells
// something; and what is ok can change nothing, too.
func TestLinesThatChangeNothing(t *testing.T) {
	still := []string{"turn 0", "step 0", "live 0", "shift 0 0", "ring", "rule", "field", "life", "number", "period 9", "words 2", "still", "move 3", "cells 1", "clusters", "through", "", "no", "ring 3", "rule 2", "field x", "life S/B", "number 256", "step 1001", "turn -1", "words 4", "shift 99 0", "live 513"}
	for i, d := range drawnDesks(1033) {
		same := []string{"rule " + textOfRule(d.Rule), "ring " + textOf(d.Ring), "field " + textOfField(d.Field), "life " + textOfLife(d.Life), fmt.Sprintf("turn %d", len(d.Ring)), fmt.Sprintf("shift %d %d", d.Field.Rows, -d.Field.Columns)}
		for _, line := range slices.Concat(still, same) {
			next := wantLine(t, d, line)
			wantBool(t, named("a line that changes nothing", i, line), impl.SameDesk(d, next), true)
		}
		for _, line := range same {
			_, output, _ := impl.DeskCommand(d, line)
			wantBool(t, named("a line that is ok", i, line), output == "ok", true)
		}
		// What is settled or burnt stays as it is when this is done again.
		for _, line := range []string{"settle", "burn", "least"} {
			once := wantLine(t, d, line)
			twice := wantLine(t, once, line)
			wantBool(t, named("twice", line), impl.SameDesk(once, twice), true)
		}
		for _, line := range []string{"mirror", "opposite"} {
			wantBool(t, named("twice", line), impl.SameDesk(wantLine(t, wantLine(t, d, line), line), d), true)
		}
	}
}

// What a desk tells of a part is read back to it.
func TestPartsAreReadBack(t *testing.T) {
	for _, d := range drawnDesks(1039) {
		other := newDesk()
		for _, part := range []string{"rule", "ring", "field", "life"} {
			_, text, _ := impl.DeskCommand(d, part)
			next, output, ok := impl.DeskCommand(other, part+" "+text)
			wantBool(t, named("a part is read back", part, text), ok && output == "ok", true)
			other = next
		}
		wantEach(t, "the desk with all parts", all(other), all(d))
	}
}
