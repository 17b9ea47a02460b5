package tests

import (
	"slices"
	"strings"
	"testing"

	"loop.example/g01381/impl"
)

// someLines are lines of all forms.
func someLines() []string {
	lines := firstWords()
	return append(lines, "rule 2,0;10", "ring 21", "field 1,2;50", "life B1/S", "number 30", "step 2", "step 0", "period 99", "turn 1", "turn 0", "words 2", "live 1", "live 0", "move 3", "cells 1",
		"shift 1 1", "shift 0 0", "", "what", "rule x", "ring 3", "field 1,1;", "life S/B", "number 256", "step 1001", "period 0", "turn 65", "words 4", "live -1", "move 0", "cells x", "shift 25 0")
}

// callsOfDesk calls each function of chapter 8 that takes a desk, or a part of one.
func callsOfDesk(d impl.Desk) [][]any {
	calls := [][]any{
		all(impl.ValidDesk(d)), all(impl.SameDesk(d, d)), all(impl.SameDesk(d, newDesk())), all(impl.SameDesk(newDesk(), d)),
		all(impl.RuleText(d.Rule)), all(impl.RingText(d.Ring)), all(impl.FieldText(d.Field)), all(impl.LifeText(d.Life)),
		all(impl.RunDesk(d, "")), all(impl.RunDesk(d, "\n")), all(impl.RunDesk(d, "ring")), all(impl.RunDesk(d, scriptOf(someLines()...))),
		all(impl.RunDesk(d, "ring\nrule\nturn 0\n")), all(impl.RunDesk(d, "ring 2\n")),
		all(impl.RunJournal(d, "")), all(impl.RunJournal(d, "x")), all(impl.RunJournal(d, journalOf(""))), all(impl.RunJournal(d, journalOf(someLines()...))),
		all(impl.RunJournal(d, journalOf("ring 2", "settle")+"x")),
	}
	for _, line := range someLines() {
		calls = append(calls, all(impl.DeskCommand(d, line)))
	}
	return calls
}

// Promise 1: equal results for equal arguments, no argument is changed, and nothing
// is shared, also by lines that change nothing.
func TestDesksArePure(t *testing.T) {
	for _, d := range append(drawnDesks(1097), badDesks()...) {
		wantPureOf(t, named("desks", d), d, callsOfDesk)
	}
	// The parts of a desk may share memory before a line, but do not so behind it.
	list := []int64{0, 1, 1, 0, 1, 0, 0, 1}
	shared := impl.Desk{Rule: impl.Rule{States: 2, Reach: 1, Table: list}, Ring: list, Field: impl.Field{Rows: 2, Columns: 4, Cells: list}, Life: impl.Life{Born: list[:2], Stay: list[:2]}}
	for _, results := range callsOfDesk(shared) {
		wantOwnMemory(t, "a desk of one list", all(shared), results)
	}
	if !slices.Equal(list, []int64{0, 1, 1, 0, 1, 0, 0, 1}) {
		t.Errorf("the list was changed: %v", list)
	}
}

func TestTextsOfDesksArePure(t *testing.T) {
	texts := append(oddWords(), someLines()...)
	for _, lines := range linesOfAllKinds() {
		texts = append(texts, journalOf(lines...), scriptOf(lines...), strings.Join(lines, "\n"))
	}
	for _, s := range texts {
		calls := func(s string) [][]any {
			return [][]any{
				all(impl.ReadRule(s)), all(impl.ReadRing(s)), all(impl.ReadField(s)), all(impl.ReadLife(s)), all(impl.CountOutputs(s)), all(impl.RecoverJournal(s)), all(impl.JournalOf([]string{s, s})),
				all(impl.DeskCommand(newDesk(), s)), all(impl.RunDesk(newDesk(), s)), all(impl.RunJournal(newDesk(), s)),
			}
		}
		first, second := calls(s), calls(strings.Clone(s))
		wantBool(t, named("texts", s), shownCalls(first) == shownCalls(second), true)
		for i, results := range first {
			wantOwnMemory(t, named("texts", s), second[i], results)
		}
	}
}

// The list of lines has unused capacity, too.
func TestListsOfLinesAreKept(t *testing.T) {
	for _, lines := range append(linesOfAllKinds(), []string{"ring", "a\nb"}, many("x", 9000)) {
		wantPureOf(t, "lines", lines, func(lines []string) [][]any { return [][]any{all(impl.JournalOf(lines))} })
	}
	lines := []string{"ring", "life", "a\nb", "rule"}
	wantOnly(t, "JournalOf a part of a list", all(impl.JournalOf(lines[:2])), journalOf("ring", "life"))
	wantEach(t, "the lines", all(lines), all([]string{"ring", "life", "a\nb", "rule"}))
	// The lines that are recovered are the caller's.
	first, _, _ := impl.RecoverJournal(journalOf("ring", "life"))
	first[0] = "x"
	wantAll(t, "RecoverJournal again", all(impl.RecoverJournal(journalOf("ring", "life"))), []string{"ring", "life"}, int64(len(journalOf("ring", "life"))))
}

// The desks behind the lines of a script share nothing with each other.
func TestDesksAreApart(t *testing.T) {
	for _, d := range drawnDesks(1103)[:6] {
		desks := []any{d}
		for _, line := range someLines() {
			next, _, _ := impl.DeskCommand(d, line)
			desks, d = append(desks, next), next
		}
		wantOwnMemory(t, "desks one after another", nil, desks)
	}
}

// Each function returns for numbers as great and as small as integers have, and for
// texts and lists of any length.
func TestDesksReturn(t *testing.T) {
	d := newDesk()
	for _, n := range ends() {
		number := textOfNumbers(n)
		for _, name := range firstWords() {
			for _, line := range []string{name + " " + number, name + " " + number + " " + number, name + " 0 " + number, name + " " + number + " 0"} {
				wantLine(t, d, line)
			}
		}
		wantNone(t, named("RuleText", n), all(impl.RuleText(impl.Rule{States: n, Reach: n, Table: []int64{0, 1}})))
		wantNone(t, named("RingText", n), all(impl.RingText([]int64{n})))
		wantNone(t, named("FieldText", n), all(impl.FieldText(impl.Field{Rows: n, Columns: n, Cells: []int64{n}})))
		wantNone(t, named("LifeText", n), all(impl.LifeText(impl.Life{Born: []int64{n}})))
		for _, s := range []string{number + "," + number + ";0", number + ",0;01", "2," + number + ";01", number + ",1;0", "1," + number + ";0", number, "B" + number + "/S", "B/S" + number, ";" + number} {
			wantRead(t, s)
		}
	}
	for _, s := range []string{"x", "\n", " ", "0 \n", "ring\n", "ring ", "\xff"} {
		long := strings.Repeat(s, 100000)
		wantNone(t, "RunDesk of a long script", all(impl.RunDesk(d, long)))
		wantNone(t, "CountOutputs of a long text", all(impl.CountOutputs(long)))
		wantNone(t, "RecoverJournal of a long text", all(impl.RecoverJournal(long)))
		wantNone(t, "RunJournal of a long text", all(impl.RunJournal(d, long)))
		wantNone(t, "JournalOf a long line", all(impl.JournalOf([]string{long})))
		wantNone(t, "JournalOf many lines", all(impl.JournalOf(many("ring", 100000))))
		next, output, ok := impl.DeskCommand(d, long)
		wantAll(t, "DeskCommand of a long line", all(next, output, ok), d, "what")
		next, output, ok = impl.DeskCommand(d, "ring "+strings.Repeat("0", 1000000))
		wantAll(t, "DeskCommand of a long word", all(next, output, ok), d, "no")
	}
}
