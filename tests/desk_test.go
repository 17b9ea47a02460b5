package tests

import (
	"slices"
	"strings"
	"testing"

	"loop.example/g01381/impl"
)

// The examples of chapter 8.
func TestExamplesOfDesks(t *testing.T) {
	d := impl.NewDesk()
	for line, want := range map[string]string{"ring": "010", "life": "B3/S23", "number": "90"} {
		next, output, ok := impl.DeskCommand(d, line)
		wantAll(t, line, all(next, output, ok), newDesk(), want)
	}
	next, outputs, ok := impl.RunDesk(d, "ring\nlife\nnumber\n")
	wantAll(t, "RunDesk", all(next, outputs, ok), newDesk(), "010\nB3/S23\n90\n")
}

func TestLimitOfScripts(t *testing.T) {
	if impl.MaxScript != 16000 {
		t.Errorf("MaxScript: got %d", impl.MaxScript)
	}
}

func TestNewDesk(t *testing.T) {
	first, second := impl.NewDesk(), impl.NewDesk()
	wantEach(t, "NewDesk", all(first), all(newDesk()))
	wantBool(t, "a new desk is valid", impl.ValidDesk(first), true)
	wantOwnMemory(t, "NewDesk", all(second), all(first))
	// What is done with one new desk is not in the next one.
	for _, list := range [][]int64{first.Rule.Table, first.Ring, first.Field.Cells, first.Life.Born, first.Life.Stay} {
		for i := range list {
			list[i] = -7
		}
	}
	wantEach(t, "NewDesk again", all(impl.NewDesk()), all(newDesk()))
}

func TestValidDesk(t *testing.T) {
	for _, d := range append(drawnDesks(971), impl.NewDesk()) {
		wantBool(t, named("ValidDesk", d), impl.ValidDesk(d), true)
	}
	for _, d := range badDesks() {
		wantBool(t, named("ValidDesk", d), impl.ValidDesk(d), false)
	}
	// Rings of desks have 3 states, and fields are not plain alone.
	for _, c := range []struct {
		ring []int64
		is   bool
	}{
		{[]int64{0}, true}, {[]int64{2}, true}, {[]int64{3}, false}, {[]int64{0, 1, 2}, true}, {[]int64{0, 1, 3}, false}, {[]int64{-1}, false},
		{many(int64(2), impl.MaxRing), true}, {many(int64(0), impl.MaxRing+1), false}, {nil, false}, {[]int64{}, false},
	} {
		d := newDesk()
		d.Ring = c.ring
		wantBool(t, named("ValidDesk", d), impl.ValidDesk(d), c.is)
	}
	for _, f := range append(drawnFields(977, impl.MaxCell), evenField(impl.MaxField, impl.MaxField, 9)) {
		d := newDesk()
		d.Field = f
		wantBool(t, named("ValidDesk", d), impl.ValidDesk(d), true)
	}
	for _, w := range goodLives() {
		d := newDesk()
		d.Life = w
		wantBool(t, named("ValidDesk", d), impl.ValidDesk(d), true)
	}
	for _, r := range drawnRules(2) {
		d := newDesk()
		d.Rule = r
		wantBool(t, named("ValidDesk", d), impl.ValidDesk(d), true)
	}
}

func TestSameDesk(t *testing.T) {
	desks := append(drawnDesks(983), badDesks()...)
	for _, a := range desks {
		for _, b := range desks {
			wantBool(t, named("SameDesk", a, b), impl.SameDesk(a, b), shown(a) == shown(b))
		}
	}
	// A nil list and an empty one are the same.
	wantBool(t, "SameDesk of empty lists", impl.SameDesk(impl.Desk{}, impl.Desk{Rule: impl.Rule{Table: []int64{}}, Ring: []int64{}, Field: impl.Field{Cells: []int64{}}, Life: impl.Life{Born: []int64{}, Stay: []int64{}}}), true)
	for _, d := range drawnDesks(991) {
		copies, _ := roomed(d)
		wantBool(t, named("SameDesk of a copy", d), impl.SameDesk(d, copies) && impl.SameDesk(copies, d), true)
	}
}

// Each number and list of a desk makes it another one.
func TestSameDeskOfNearlySame(t *testing.T) {
	for _, d := range []impl.Desk{newDesk(), {Rule: impl.Rule{States: 9, Table: []int64{5}}, Ring: []int64{7}, Field: impl.Field{Cells: []int64{4}}, Life: impl.Life{Born: []int64{9, 9}, Stay: []int64{-1}}}} {
		for what, change := range map[string]func(d *impl.Desk){
			"States": func(d *impl.Desk) { d.Rule.States++ }, "Reach": func(d *impl.Desk) { d.Rule.Reach++ },
			"Rows": func(d *impl.Desk) { d.Field.Rows++ }, "Columns": func(d *impl.Desk) { d.Field.Columns++ },
			"Table": func(d *impl.Desk) { d.Rule.Table[0]++ }, "Ring": func(d *impl.Desk) { d.Ring[len(d.Ring)-1]++ },
			"Cells": func(d *impl.Desk) { d.Field.Cells[0]++ }, "Born": func(d *impl.Desk) { d.Life.Born[0]++ },
			"Stay":            func(d *impl.Desk) { d.Life.Stay[len(d.Life.Stay)-1]++ },
			"a longer Table":  func(d *impl.Desk) { d.Rule.Table = append(d.Rule.Table, 0) },
			"a longer Ring":   func(d *impl.Desk) { d.Ring = append(d.Ring, 0) },
			"a shorter Ring":  func(d *impl.Desk) { d.Ring = d.Ring[1:] },
			"more Cells":      func(d *impl.Desk) { d.Field.Cells = append(d.Field.Cells, 0) },
			"more Born":       func(d *impl.Desk) { d.Life.Born = append(d.Life.Born, 8) },
			"no Stay":         func(d *impl.Desk) { d.Life.Stay = nil },
			"lists exchanged": func(d *impl.Desk) { d.Life.Born, d.Life.Stay = d.Life.Stay, d.Life.Born },
		} {
			other, _ := roomed(d)
			change(&other)
			wantBool(t, named("SameDesk with another "+what, d), impl.SameDesk(d, other) || impl.SameDesk(other, d), false)
		}
	}
}

// No function takes a desk that is not valid.
func TestDesksThatAreNotValid(t *testing.T) {
	for _, d := range badDesks() {
		for _, line := range []string{"", "ring", "rule", "field", "life", "ring 010", "rule 2,0;01", "field 1,1;0", "life B/S", "number 90", "still", "what", "settle"} {
			wantNone(t, named("DeskCommand", d, line), all(impl.DeskCommand(d, line)))
		}
		for _, script := range []string{"", "\n", "ring\n", "ring 010\nrule 2,0;01\nfield 1,1;0\nlife B/S\n", "ring"} {
			wantNone(t, named("RunDesk", d, script), all(impl.RunDesk(d, script)))
		}
		for _, journal := range []string{"", "0 \n", journalOf("ring", "life"), "x"} {
			wantNone(t, named("RunJournal", d, journal), all(impl.RunJournal(d, journal)))
		}
	}
}

// A desk whose lists are parts of longer ones is told by these parts alone, and one
// whose lists are all the same memory is one whose parts change alone.
func TestDesksInLists(t *testing.T) {
	list := []int64{0, 1, 1, 0, 1, 0, 0, 1, 1}
	d := impl.Desk{
		Rule: impl.Rule{States: 2, Reach: 0, Table: list[:2]}, Ring: list[1:6],
		Field: impl.Field{Rows: 2, Columns: 4, Cells: list[:8]}, Life: impl.Life{Born: list[:2], Stay: list[3:5]},
	}
	for _, line := range []string{"ring", "rule", "field", "life", "ring 2", "turn 2", "least", "settle", "shift 1 1", "live 2", "step 1", "number 5", "mirror", "", "no", "ring 3", "turn 0", "step 0", "life B/S"} {
		wantLine(t, d, line)
	}
	next, outputs, _ := impl.RunDesk(d, "ring 2\nturn 1\nfield 1,1;9\nlife B1/S\nnumber 1\n")
	wantEach(t, "RunDesk", all(next, outputs), all(impl.Desk{Rule: ruleNumber(t, 1), Ring: []int64{2}, Field: fieldOf("9"), Life: impl.Life{Born: []int64{1}}}, strings.Repeat("ok\n", 5)))
	if !slices.Equal(list, []int64{0, 1, 1, 0, 1, 0, 0, 1, 1}) {
		t.Errorf("the list was changed: %v", list)
	}
}
