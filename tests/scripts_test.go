package tests

import (
	"fmt"
	"slices"
	"strings"
	"testing"

	"loop.example/g01381/impl"
)

// line draws a line: of any form, with words that fit often.
func (l *luck) line() string {
	number := func(most int64) string { return fmt.Sprint(l.below(most+2) - 1) }
	switch l.below(27) {
	case 0:
		return "rule " + textOfRule(l.rule(2+l.below(2), l.below(3)))
	case 1:
		return "ring " + textOf(l.states(1+l.below(9), 2+l.below(2)))
	case 2:
		return "field " + textOfField(l.field(1+l.below(5), 1+l.below(5), 1+l.below(9)))
	case 3:
		return "field " + textOfField(l.field(1+l.below(6), 1+l.below(6), 1))
	case 4:
		return "life " + textOfLife(l.life())
	case 5:
		return "number " + number(256)
	case 6:
		return "step " + number(9)
	case 7:
		return "period " + number(99)
	case 8:
		return "turn " + number(64)
	case 9:
		return "words " + number(4)
	case 10:
		return "live " + number(5)
	case 11:
		return "move " + number(20)
	case 12:
		return "cells " + number(9)
	case 13:
		return "shift " + number(24) + " " + number(24)
	case 14:
		return oddWords()[l.below(int64(len(oddWords())))]
	}
	words := slices.Concat(firstWords(), firstWords(), []string{"", "what", "step", "ring 0 1"})
	return words[l.below(int64(len(words)))]
}

// lines draws lines without newlines.
func (l *luck) lines(n int64) []string {
	var lines []string
	for range n {
		lines = append(lines, strings.ReplaceAll(l.line(), "\n", ""))
	}
	return lines
}

// wantScript checks RunDesk of lines.
func wantScript(t *testing.T, d impl.Desk, lines []string) {
	t.Helper()
	want, outputs := afterScript(d, lines)
	got := all(impl.RunDesk(d, scriptOf(lines...)))
	wantAll(t, named("RunDesk", d, lines), got, want, outputs)
	wantOwnMemory(t, named("RunDesk", d, lines), all(d), got)
}

func TestRunDesk(t *testing.T) {
	d := impl.NewDesk()
	for _, c := range []struct{ script, outputs, ring string }{
		{"", "", "010"}, {"\n", "what\n", "010"}, {"\n\n\n", "what\nwhat\nwhat\n", "010"}, {"ring\n", "010\n", "010"},
		{"ring 2\nring\n", "ok\n2\n", "2"}, {"ring\nring 2\nring\n", "010\nok\n2\n", "2"}, {"ring 3\nring\n", "no\n010\n", "010"},
		{"step 1\nring\nstep 1\nring\n", "ok\n101\nok\n101\n", "101"}, {"\nring\n\n", "what\n010\nwhat\n", "010"},
		{"ring 01\nstep 1\nturn 1\n", "ok\nok\nok\n", "00"}, {" ring\nring \n", "what\nno\n", "010"}, {"ring\r\nring 0\r\n", "what\nno\n", "010"},
		{"ring 2\nstep 1\nperiod 5\n", "ok\nno\nno\n", "2"}, {"ring 21\nrule 3,0;120\nstep 1\nnumber\n", "ok\nok\nok\nno\n", "02"},
	} {
		next, outputs, ok := impl.RunDesk(d, c.script)
		want := newDesk()
		want.Ring, want.Rule = cellsOf(c.ring), next.Rule
		wantAll(t, named("RunDesk", c.script), all(next, outputs, ok), want, c.outputs)
	}
	for _, script := range []string{"ring", "ring\nring", " ", "\r", "\n ", "ring\n\r", "what", "ring\n\x00", "\xff", "ring\x0b", "\n\n\nx"} {
		wantNone(t, named("RunDesk", script), all(impl.RunDesk(d, script)))
	}
}

// A script does what its lines do one after another, also in two parts.
func TestScriptsAreLines(t *testing.T) {
	l := &luck{1049}
	for _, d := range drawnDesks(1051) {
		for range 4 {
			lines := l.lines(1 + l.below(25))
			wantScript(t, d, lines)
			now, outputs := d, ""
			for _, line := range lines {
				next, output, ok := impl.DeskCommand(now, line)
				wantBool(t, named("DeskCommand", line), ok && impl.ValidDesk(next), true)
				now, outputs = next, outputs+output+"\n"
			}
			wantAll(t, named("RunDesk", lines), all(impl.RunDesk(d, scriptOf(lines...))), now, outputs)
			at := l.below(int64(len(lines)) + 1)
			first, before, _ := impl.RunDesk(d, scriptOf(lines[:at]...))
			second, behind, _ := impl.RunDesk(first, scriptOf(lines[at:]...))
			wantEach(t, named("RunDesk in two parts", lines), all(second, before+behind), all(now, outputs))
		}
	}
}

// A script that does not end with a newline fails, wherever it is cut.
func TestScriptsAreCut(t *testing.T) {
	l := &luck{1061}
	d := newDesk()
	for range 5 {
		lines := l.lines(12)
		script := scriptOf(lines...)
		for at := range len(script) + 1 {
			got := all(impl.RunDesk(d, script[:at]))
			if at > 0 && script[at-1] != '\n' {
				wantNone(t, named("RunDesk", script[:at]), got)
				continue
			}
			want, outputs := afterScript(d, lines[:strings.Count(script[:at], "\n")])
			wantAll(t, named("RunDesk", script[:at]), got, want, outputs)
		}
	}
}

func TestLongScripts(t *testing.T) {
	d := newDesk()
	for script, outputs := range map[string]string{
		strings.Repeat("ring\n", 3200):                        strings.Repeat("010\n", 3200),
		strings.Repeat("\n", 16000):                           strings.Repeat("what\n", 16000),
		strings.Repeat("x", 15999) + "\n":                     "what\n",
		"ring " + strings.Repeat("0", 15994) + "\n":           "no\n",
		strings.Repeat("step 1\n", 2285) + "ring\n":           strings.Repeat("ok\n", 2285) + "101\n",
		strings.Repeat("cells 1\n", 2000):                     strings.Repeat("3\n", 2000),
		strings.Repeat(" ", 15999) + "\n":                     "what\n",
		"\n" + strings.Repeat("rule\n", 3199) + "xyz\n":       "what\n" + strings.Repeat("2,1;01011010\n", 3199) + "what\n",
		"field\n" + strings.Repeat("\n", 15993) + "\n":        "3,3;000111000\n" + strings.Repeat("what\n", 15994),
		strings.Repeat("number 9\n", 1777) + "number\n":       strings.Repeat("ok\n", 1777) + "9\n",
		strings.Repeat("ring 2\nring 010\n", 1000):            strings.Repeat("ok\n", 2000),
		strings.Repeat("field 1,1;9\nsettle\nfield\n", 615):   strings.Repeat("ok\n2\n1,1;1\n", 615),
		strings.Repeat("life B3/S23\nlive 0\nstill\n", 620):   strings.Repeat("ok\nok\nnever\n", 620),
		strings.Repeat("shift 1 0\nshift -1 0\n", 720) + "\n": strings.Repeat("ok\n", 1440) + "what\n",
	} {
		if len(script) > impl.MaxScript {
			t.Fatalf("the script has %d bytes", len(script))
		}
		_, got, ok := impl.RunDesk(d, script)
		if !ok || got != outputs {
			t.Errorf("RunDesk of a long script %.20q: got %d bytes, %v, want %d", script, len(got), ok, len(outputs))
		}
		// Up to the limit, and one byte more.
		filled := script + strings.Repeat("\n", impl.MaxScript-len(script))
		_, got, ok = impl.RunDesk(d, filled)
		if want := outputs + strings.Repeat("what\n", impl.MaxScript-len(script)); !ok || got != want {
			t.Errorf("RunDesk of a filled script %.20q: got %d bytes, %v, want %d", script, len(got), ok, len(want))
		}
		wantNone(t, "RunDesk of one byte more", all(impl.RunDesk(d, filled+"\n")))
		wantNone(t, "RunDesk of many bytes more", all(impl.RunDesk(d, filled+filled)))
		wantNone(t, "RunDesk of one byte more, without a newline", all(impl.RunDesk(d, filled+"x")))
	}
}

// Outputs can have more bytes than a script.
func TestLongOutputs(t *testing.T) {
	d := newDesk()
	d.Field = evenField(24, 24, 7)
	line := "24,24;" + strings.Repeat("7", 576) + "\n"
	_, outputs, ok := impl.RunDesk(d, strings.Repeat("field\n", 2666))
	wantBool(t, "RunDesk with long outputs", ok && outputs == strings.Repeat(line, 2666), true)
	wantNone(t, "CountOutputs of long outputs", all(impl.CountOutputs(outputs)))
}

func TestCountOutputs(t *testing.T) {
	for _, c := range []struct {
		text         string
		refused, not int64
	}{
		{"", 0, 0}, {"\n", 0, 1}, {"\n\n\n", 0, 3}, {"no\n", 1, 0}, {"what\n", 1, 0}, {"ok\n", 0, 1}, {"no\nwhat\nok\n", 2, 1}, {"ok\nno\nok\nno\n", 2, 2},
		{"010\nB3/S23\n90\n", 0, 3}, {"nope\n", 0, 1}, {"know\n", 0, 1}, {"no \n", 0, 1}, {" no\n", 0, 1}, {"no no\n", 0, 1}, {"No\n", 0, 1}, {"NO\n", 0, 1}, {"no\r\n", 0, 1},
		{"no\x00\n", 0, 1}, {"\x00no\n", 0, 1}, {"whats\n", 0, 1}, {"wha\n", 0, 1}, {"hat\n", 0, 1}, {"What\n", 0, 1}, {"what what\n", 0, 1}, {"nowhat\n", 0, 1}, {"whatno\n", 0, 1}, {"no,what\n", 0, 1},
		{"n\no\n", 0, 2}, {"wh\nat\n", 0, 2}, {"\nno\n", 1, 1}, {"no\n\n", 1, 1}, {"no\n\nno\n", 2, 1}, {"never\nyes\n", 0, 2}, {"\xff\n\u00e9\n", 0, 2}, {"no\nno\nno\n", 3, 0},
		{strings.Repeat("no\n", 5333), 5333, 0}, {strings.Repeat("what\n", 3200), 3200, 0}, {strings.Repeat("\n", 16000), 0, 16000}, {strings.Repeat("x", 15999) + "\n", 0, 1},
		{strings.Repeat("no\nwhat\n", 2000), 4000, 0}, {strings.Repeat("no\nwhat\n", 1999) + "whatno\n\n", 3998, 2}, {strings.Repeat("no", 7999) + "x\n", 0, 1},
	} {
		wantAll(t, fmt.Sprintf("CountOutputs of %.20q", c.text), all(impl.CountOutputs(c.text)), c.refused, c.not)
	}
	for _, text := range []string{
		"no", "what", "ok", " ", "x", "ok\nno", "no\nwhat", "\n ", "\nno", "no\r", "no\x00", "no\n\x00", "\xff", "ok\nok\n.", strings.Repeat("no\n", 5334), strings.Repeat("\n", 16001), strings.Repeat("x", 16000),
		strings.Repeat("x", 16000) + "\n", strings.Repeat("ok\n", 5334), strings.Repeat("no\n", 100000), strings.Repeat("n", 15998) + "\no",
	} {
		wantNone(t, fmt.Sprintf("CountOutputs of %.20q", text), all(impl.CountOutputs(text)))
	}
}

// The outputs of a script are counted as its lines are answered.
func TestOutputsAreCounted(t *testing.T) {
	l := &luck{1063}
	for _, d := range drawnDesks(1069) {
		lines := l.lines(l.below(20))
		_, outputs, _ := impl.RunDesk(d, scriptOf(lines...))
		var refused int64
		for _, line := range lines {
			next, output := afterLine(d, line)
			if d = next; output == "no" || output == "what" {
				refused++
			}
		}
		wantAll(t, named("CountOutputs", lines), all(impl.CountOutputs(outputs)), refused, int64(len(lines))-refused)
		for at := range len(outputs) {
			got := all(impl.CountOutputs(outputs[:at]))
			wantBool(t, named("CountOutputs, cut", outputs, at), succeeds(got), at == 0 || outputs[at-1] == '\n')
		}
	}
}
