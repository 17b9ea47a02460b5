package tests

import (
	"fmt"
	"regexp"
	"strconv"
	"strings"
	"testing"

	"loop.example/g01381/impl"
)

// The forms of numbers and of the texts of chapter 8.
var (
	decimalForm = regexp.MustCompile(`^(0|-?[1-9][0-9]{0,15})$`)
	ruleForm    = regexp.MustCompile(`^([23]),([012]);([0-2]+)$`)
	ringForm    = regexp.MustCompile(`^[012]{1,64}$`)
	fieldForm   = regexp.MustCompile(`^([1-9]|1[0-9]|2[0-4]),([1-9]|1[0-9]|2[0-4]);([0-9]+)$`)
	lifeForm    = regexp.MustCompile(`^B(0?1?2?3?4?5?6?7?8?)/S(0?1?2?3?4?5?6?7?8?)$`)
)

// readInteger returns the number that a text is in decimal.
func readInteger(s string) (int64, bool) {
	n, err := strconv.ParseInt(s, 10, 64)
	ok := decimalForm.MatchString(s) && err == nil && max(n, -n) <= 1000000000000000
	if !ok {
		return 0, false
	}
	return n, true
}

// readRuleText returns the rule whose text, of a form, s is.
func readRuleText(s string) (impl.Rule, bool) {
	m := ruleForm.FindStringSubmatch(s)
	if m == nil {
		return impl.Rule{}, false
	}
	states, reach := digitAt(m[1], 0), digitAt(m[2], 0)
	if int64(len(m[3])) != toThe(states, 2*reach+1) || states == 2 && strings.Contains(m[3], "2") {
		return impl.Rule{}, false
	}
	return impl.Rule{States: states, Reach: reach, Table: cellsOf(m[3])}, true
}

// readRingText returns the ring whose text, of a form, s is.
func readRingText(s string) ([]int64, bool) {
	if !ringForm.MatchString(s) {
		return nil, false
	}
	return cellsOf(s), true
}

// readFieldText returns the field whose text, of a form, s is.
func readFieldText(s string) (impl.Field, bool) {
	m := fieldForm.FindStringSubmatch(s)
	if m == nil {
		return impl.Field{}, false
	}
	rows, _ := strconv.Atoi(m[1])
	columns, _ := strconv.Atoi(m[2])
	if len(m[3]) != rows*columns {
		return impl.Field{}, false
	}
	return impl.Field{Rows: int64(rows), Columns: int64(columns), Cells: cellsOf(m[3])}, true
}

// readLifeText returns the life whose text, of a form, s is.
func readLifeText(s string) (impl.Life, bool) {
	m := lifeForm.FindStringSubmatch(s)
	if m == nil {
		return impl.Life{}, false
	}
	return impl.Life{Born: cellsOf(m[1]), Stay: cellsOf(m[2])}, true
}

// textOfRule, textOfField and textOfLife return texts of what is valid.
func textOfRule(r impl.Rule) string {
	return fmt.Sprintf("%d,%d;%s", r.States, r.Reach, textOf(r.Table))
}

func textOfField(f impl.Field) string {
	return fmt.Sprintf("%d,%d;%s", f.Rows, f.Columns, textOf(f.Cells))
}

func textOfLife(w impl.Life) string { return "B" + textOf(w.Born) + "/S" + textOf(w.Stay) }

// textOfNumbers returns numbers in decimal with commas between.
func textOfNumbers(list ...int64) string {
	return strings.Trim(strings.ReplaceAll(fmt.Sprint(list), " ", ","), "[]")
}

// newDesk returns the desk with which a desk begins.
func newDesk() impl.Desk {
	return impl.Desk{
		Rule:  impl.Rule{States: 2, Reach: 1, Table: []int64{0, 1, 0, 1, 1, 0, 1, 0}},
		Ring:  []int64{0, 1, 0},
		Field: fieldOf("000", "111", "000"),
		Life:  conway(),
	}
}

// desk draws a desk.
func (l *luck) desk(states, reach, cells, rows, columns, most int64) impl.Desk {
	return impl.Desk{Rule: l.rule(states, reach), Ring: l.states(cells, states), Field: l.field(rows, columns, most), Life: l.life()}
}

// drawnDesks returns desks with rules of all shapes, rings of all kinds of lengths,
// and plain and other fields of all extents.
func drawnDesks(seed uint64) []impl.Desk {
	l := &luck{seed}
	desks := []impl.Desk{newDesk()}
	for i, s := range extents() {
		most := []int64{1, 2, 4, impl.MaxCell}[i%4]
		cells := []int64{1, 2, 3, 5, 8, 63, 64}[i%7]
		desks = append(desks, l.desk(2+int64(i%2), int64(i%3), cells, s[0], s[1], most))
	}
	lives := []impl.Life{{}, {Born: []int64{3}}, {Stay: []int64{2, 3}}, {Born: []int64{0, 8}, Stay: []int64{0, 8}}}
	for i, w := range lives {
		d := l.desk(2, 1, 3+int64(i), 4, 4, 1)
		d.Life = w
		desks = append(desks, d)
	}
	// The ring of a desk may have a 2 though its rule has 2 states.
	mixed := l.desk(2, 1, 5, 2, 2, 9)
	mixed.Ring = []int64{2, 0, 1, 2, 2}
	return append(desks, mixed)
}

// badDesks returns desks one part of which is not valid, or all of them are not.
func badDesks() []impl.Desk {
	var desks []impl.Desk
	with := func(change func(d *impl.Desk)) {
		d := newDesk()
		change(&d)
		desks = append(desks, d)
	}
	for _, r := range badRules() {
		with(func(d *impl.Desk) { d.Rule = r })
	}
	for _, ring := range badRings(3) {
		with(func(d *impl.Desk) { d.Ring = ring })
	}
	for _, f := range badFields() {
		with(func(d *impl.Desk) { d.Field = f })
	}
	for _, w := range badLives() {
		with(func(d *impl.Desk) { d.Life = w })
	}
	good := newDesk()
	return append(desks, impl.Desk{}, impl.Desk{Rule: good.Rule}, impl.Desk{Ring: good.Ring}, impl.Desk{Field: good.Field}, impl.Desk{Life: good.Life},
		impl.Desk{Rule: badRules()[4], Ring: badRings(3)[2], Field: badFields()[7], Life: badLives()[0]},
		impl.Desk{Rule: good.Rule, Ring: good.Ring}, impl.Desk{Rule: good.Rule, Ring: good.Ring, Life: good.Life},
		impl.Desk{Ring: good.Ring, Field: good.Field, Life: good.Life}, impl.Desk{Rule: good.Rule, Field: good.Field, Life: good.Life})
}

// tellingOf tells what a line outputs that changes nothing; its words are told by
// the line, and its numbers by read. The last result is false if it is not one.
func tellingOf(d impl.Desk, form string, n int64) (string, bool) {
	answer := func(text string, ok bool) (string, bool) {
		if !ok {
			return "no", true
		}
		return text, true
	}
	switch form {
	case "rule 0":
		return textOfRule(d.Rule), true
	case "ring 0":
		return textOf(d.Ring), true
	case "field 0":
		return textOfField(d.Field), true
	case "life 0":
		return textOfLife(d.Life), true
	case "number 0":
		number, ok := impl.NumberOfRule(d.Rule)
		return answer(textOfNumbers(number), ok)
	case "period 1":
		before, round, ok := impl.PeriodOf(d.Rule, d.Ring, n)
		return answer(textOfNumbers(before, round), ok)
	case "words 1":
		counts, ok := impl.WordsOfRing(d.Ring, 3, n)
		// There is no text of more than 64 numbers.
		return answer(textOfNumbers(counts...), ok && n < 4)
	case "still 0":
		is, ok := impl.IsStill(d.Life, d.Field, true)
		return answer(map[bool]string{true: "yes", false: "never"}[is], ok)
	case "move 1":
		steps, rows, columns, ok := impl.MoveOf(d.Life, d.Field, n)
		return answer(textOfNumbers(steps, rows, columns), ok)
	case "cells 1":
		count, ok := impl.CountCells(d.Field, n)
		return answer(textOfNumbers(count), ok)
	case "clusters 0":
		_, count, ok := impl.ClustersOf(d.Field)
		return answer(textOfNumbers(count), ok)
	case "through 0":
		is, ok := impl.LeadsThrough(d.Field)
		return answer(map[bool]string{true: "yes", false: "never"}[is], ok)
	}
	return "", false
}

// madeByLine makes a line's change of a desk, and tells what it outputs, and whether
// it succeeds; where there is no such line, the output is what.
func madeByLine(d *impl.Desk, form, text string, n, k int64) (string, bool) {
	ok, output := false, "ok"
	var count int64
	switch form {
	case "rule 1":
		d.Rule, ok = readRuleText(text)
	case "ring 1":
		d.Ring, ok = readRingText(text)
	case "field 1":
		d.Field, ok = readFieldText(text)
	case "life 1":
		d.Life, ok = readLifeText(text)
	case "number 1":
		d.Rule, ok = impl.RuleOfNumber(n)
	case "mirror 0":
		d.Rule, ok = impl.MirrorRule(d.Rule)
	case "opposite 0":
		d.Rule, ok = impl.OppositeRule(d.Rule)
	case "step 1":
		d.Ring, ok = impl.RunRing(d.Rule, d.Ring, n)
	case "turn 1":
		d.Ring, ok = impl.TurnRing(d.Ring, n)
	case "least 0":
		d.Ring, ok = impl.LeastTurn(d.Ring)
	case "live 1":
		d.Field, ok = impl.RunLife(d.Life, d.Field, true, n)
	case "settle 0":
		d.Field, count, ok = impl.SettleHeap(d.Field)
		output = textOfNumbers(count)
	case "burn 0":
		d.Field, count, ok = impl.BurnAll(d.Field)
		output = textOfNumbers(count)
	case "shift 2":
		d.Field, ok = impl.ShiftField(d.Field, n, k)
	default:
		output = "what"
	}
	return output, ok
}

// takesNumbers reports whether the words of lines of a form are numbers.
func takesNumbers(form string) bool {
	return strings.Contains(" number 1 step 1 period 1 turn 1 words 1 live 1 move 1 cells 1 shift 2 ", " "+form+" ")
}

// afterLine returns the desk after a line at a valid desk, and its output, told by
// the table of the document.
func afterLine(d impl.Desk, line string) (impl.Desk, string) {
	words := strings.Split(line, " ")
	form := fmt.Sprintf("%s %d", words[0], len(words)-1)
	var numbers [2]int64
	if takesNumbers(form) {
		for i, word := range words[1:] {
			n, ok := readInteger(word)
			if !ok {
				return d, "no"
			}
			numbers[i] = n
		}
	}
	if output, ok := tellingOf(d, form, numbers[0]); ok {
		return d, output
	}
	next := d
	output, ok := madeByLine(&next, form, words[len(words)-1], numbers[0], numbers[1])
	switch {
	case output == "what":
		return d, "what"
	case !ok:
		return d, "no"
	}
	return next, output
}

// afterScript returns the desk after lines, and their outputs.
func afterScript(d impl.Desk, lines []string) (impl.Desk, string) {
	outputs := ""
	for _, line := range lines {
		var output string
		d, output = afterLine(d, line)
		outputs += output + "\n"
	}
	return d, outputs
}

// scriptOf returns the script of lines.
func scriptOf(lines ...string) string {
	script := ""
	for _, line := range lines {
		script += line + "\n"
	}
	return script
}

// firstWords are those of the lines of the document's table.
func firstWords() []string {
	return strings.Fields("rule ring field life number mirror opposite step period turn least words live still move cells clusters through settle burn shift")
}

// oddWords are words that are likely to be taken for others.
func oddWords() []string {
	return []string{
		"", "0", "1", "2", "3", "4", "5", "9", "10", "23", "24", "25", "63", "64", "65", "90", "255", "256", "511", "512", "513",
		"999", "1000", "1001", "4095", "4096", "4097", "-1", "-2", "-24", "-25", "-0", "+0", "+1", "--1", "00", "01", "-01", "1.", "1.0", "1e3", "0x1", "1_0",
		"1000000000000000", "1000000000000001", "-1000000000000000", "-1000000000000001", "4294967296", "4294967297",
		"9223372036854775807", "9223372036854775808", "-9223372036854775808", "-9223372036854775809", "18446744073709551616", "18446744073709551617",
		"010", "2,1;01011010", "3,0;012", "2,0;01", "3,3;000111000", "1,1;9", "1,2;50", "1,3;210", "B3/S23", "B/S", "B0/S", "B/S8",
		"none", "0,1", "1,", ",", ";", "x", "rule", "ring", "N", "TEXT", "\t", "1\t", "1\n", "\n", "\r", "1\r", "\x00", "\xff", "\u00a0", "\u0661", "\uff11",
		strings.Repeat("0", 64), strings.Repeat("1", 65), strings.Repeat("9", 5000),
	}
}

// wantLine checks DeskCommand of a line: what it returns, and that this shares no
// memory with the desk before, which stays as it was.
func wantLine(t *testing.T, d impl.Desk, line string) impl.Desk {
	t.Helper()
	before := shown(d)
	want, output := afterLine(d, line)
	next, got, ok := impl.DeskCommand(d, line)
	if what := named("DeskCommand", d, line); !ok || got != output || shown(next) != shown(want) {
		t.Errorf("%s: got %v, %q, %v, want %v, %q", what, next, got, ok, want, output)
	}
	if shown(d) != before {
		t.Errorf("%s: the desk was changed", named("DeskCommand", d, line))
	}
	wantOwnMemory(t, named("DeskCommand", d, line), []any{d}, []any{next})
	return next
}
