package tests

import (
	"testing"

	"loop.example/g01381/impl"
)

func TestValidLife(t *testing.T) {
	for _, w := range goodLives() {
		wantBool(t, named("ValidLife", w), impl.ValidLife(w), true)
	}
	for _, w := range badLives() {
		wantBool(t, named("ValidLife", w), impl.ValidLife(w), false)
	}
	for a := int64(-1); a <= 9; a++ {
		for b := int64(-1); b <= 9; b++ {
			fine := a >= 0 && a < b && b <= 8
			wantBool(t, named("ValidLife", a, b), impl.ValidLife(impl.Life{Born: []int64{a, b}}), fine)
			wantBool(t, named("ValidLife", a, b), impl.ValidLife(impl.Life{Stay: []int64{a, b}}), fine)
		}
	}
}

func TestSameLife(t *testing.T) {
	lives := append(goodLives(), badLives()...)
	for _, a := range lives {
		for _, b := range lives {
			wantBool(t, named("SameLife", a, b), impl.SameLife(a, b), shown(a) == shown(b))
		}
	}
	wantBool(t, "nil and empty lists", impl.SameLife(impl.Life{}, impl.Life{Born: []int64{}, Stay: []int64{}}), true)
	wantBool(t, "exchanged lists", impl.SameLife(impl.Life{Born: []int64{1}}, impl.Life{Stay: []int64{1}}), false)
}

func TestStepLife(t *testing.T) {
	for _, w := range goodLives() {
		for _, f := range drawnFields(29, 1) {
			for _, round := range []bool{false, true} {
				want := nextLife(w, f, round)
				wantOnly(t, named("StepLife", w, f, round), all(impl.StepLife(w, f, round)), want)
				wantOnly(t, named("IsStill", w, f, round), all(impl.IsStill(w, f, round)), shown(want) == shown(f))
			}
		}
	}
}

// A single cell is its own neighbour eight times if the field is round.
func TestLifeOfOneCell(t *testing.T) {
	for n := range int64(9) {
		w := impl.Life{Born: []int64{n}, Stay: []int64{n}}
		for state := range int64(2) {
			f := evenField(1, 1, state)
			wantOnly(t, "one cell, round", all(impl.StepLife(w, f, true)), evenField(1, 1, oneIf(n == 8*state)))
			wantOnly(t, "one cell", all(impl.StepLife(w, f, false)), evenField(1, 1, oneIf(n == 0)))
		}
	}
}

func oneIf(is bool) int64 {
	if is {
		return 1
	}
	return 0
}

// nearOf returns how many neighbours a cell has, told by lives that look for
// each number.
func nearOf(t *testing.T, f impl.Field, at int, round bool) int64 {
	t.Helper()
	near := int64(-1)
	for n := range int64(9) {
		next := must(t)(impl.StepLife(impl.Life{Born: []int64{n}, Stay: []int64{n}}, f, round))
		if next.Cells[at] == 1 {
			if near >= 0 {
				t.Errorf("the cell %d of %v has %d and %d neighbours", at, f, near, n)
			}
			near = n
		}
	}
	return near
}

func TestNeighbours(t *testing.T) {
	for _, c := range []struct {
		f           impl.Field
		at          int
		flat, round int64
	}{
		{fieldOf("01"), 0, 1, 6}, {fieldOf("01"), 1, 0, 2}, {fieldOf("0", "1"), 0, 1, 6}, {fieldOf("0", "1"), 1, 0, 2},
		{fieldOf("010"), 0, 1, 3}, {fieldOf("010"), 1, 0, 2}, {fieldOf("011"), 0, 1, 6}, {fieldOf("011"), 1, 1, 5},
		{fieldOf("00", "01"), 0, 1, 4}, {fieldOf("01", "00"), 0, 1, 2}, {fieldOf("00", "10"), 0, 1, 2},
		{fieldOf("10", "00"), 0, 0, 0}, {fieldOf("11", "11"), 3, 3, 8}, {fieldOf("000", "000", "001"), 0, 0, 1},
		{fieldOf("100", "000", "000"), 8, 0, 1}, {fieldOf("111", "111", "111"), 4, 8, 8}, {fieldOf("111", "111", "111"), 0, 3, 8},
		{fieldOf("0001", "0000", "0000", "1001"), 0, 0, 3}, {fieldOf("1001", "0000", "0000", "1001"), 3, 0, 3},
		{fieldOf("100", "000", "100"), 1, 1, 2}, {fieldOf("100", "100", "100"), 1, 2, 3}, {fieldOf("0000", "1001"), 0, 1, 4},
	} {
		if got := nearOf(t, c.f, c.at, false); got != c.flat {
			t.Errorf("the cell %d of %v: got %d neighbours, want %d", c.at, c.f, got, c.flat)
		}
		if got := nearOf(t, c.f, c.at, true); got != c.round {
			t.Errorf("the cell %d of %v, round: got %d neighbours, want %d", c.at, c.f, got, c.round)
		}
	}
}

func TestPatternsAtTheBorder(t *testing.T) {
	row := fieldOf("1110", "0000", "0000", "0000")
	wantOnly(t, "a row of three at the border", all(impl.StepLife(conway(), row, false)), fieldOf("0100", "0100", "0000", "0000"))
	wantOnly(t, "a row of three at the border, round", all(impl.StepLife(conway(), row, true)), fieldOf("0100", "0100", "0000", "0100"))
	corner := fieldOf("1100", "1000", "0000", "0000")
	wantOnly(t, "three cells in a corner", all(impl.StepLife(conway(), corner, false)), fieldOf("1100", "1100", "0000", "0000"))
	apart := fieldOf("1001", "0000", "0000", "1001")
	wantOnly(t, "a cell in each corner", all(impl.StepLife(conway(), apart, false)), evenField(4, 4, 0))
	wantOnly(t, "a block around the corners", all(impl.IsStill(conway(), apart, true)), true)
	wantOnly(t, "cells in the corners are not still", all(impl.IsStill(conway(), apart, false)), false)
	born := impl.Life{Born: []int64{0}}
	wantOnly(t, "Born 0", all(impl.StepLife(born, evenField(3, 3, 0), false)), evenField(3, 3, 1))
	wantOnly(t, "Born 0", all(impl.StepLife(born, fieldOf("1000"), false)), fieldOf("0011"))
	wantOnly(t, "Born 0, round", all(impl.StepLife(born, fieldOf("1000"), true)), fieldOf("0010"))
	wantOnly(t, "Born 0 twice", all(impl.RunLife(born, evenField(3, 3, 0), true, 2)), evenField(3, 3, 0))
}

func TestRunLife(t *testing.T) {
	l := &luck{31}
	for _, f := range drawnFields(37, 1) {
		w := l.life()
		for _, round := range []bool{false, true} {
			want := f
			for steps := range int64(5) {
				wantOnly(t, named("RunLife", w, f, round, steps), all(impl.RunLife(w, f, round, steps)), want)
				want = nextLife(w, want, round)
			}
		}
	}
	big := l.field(impl.MaxField, impl.MaxField, 1)
	for _, round := range []bool{false, true} {
		wantOnly(t, "RunLife of MaxRuns", all(impl.RunLife(conway(), big, round, impl.MaxRuns)), runLife(conway(), big, round, impl.MaxRuns))
		wantLimits(t, "RunLife", 0, impl.MaxRuns, func(n int64) []any { return all(impl.RunLife(conway(), fieldOf("010", "111"), round, n)) })
	}
}

// Lives of shifted, turned and mirrored fields are shifted, turned and mirrored.
func TestLivesOfImages(t *testing.T) {
	l := &luck{41}
	for _, f := range drawnFields(43, 1) {
		w := l.life()
		for _, round := range []bool{false, true} {
			behind := must(t)(impl.RunLife(w, f, round, 3))
			for name, image := range images(t) {
				wantOnly(t, "the life of a "+name+" field", all(impl.RunLife(w, image(f), round, 3)), image(behind))
			}
		}
		behind := must(t)(impl.RunLife(w, f, true, 3))
		for range 4 {
			rows, columns := l.below(49)-24, l.below(49)-24
			shifted := must(t)(impl.ShiftField(f, rows, columns))
			want := must(t)(impl.ShiftField(behind, rows, columns))
			wantOnly(t, "the life of a shifted field", all(impl.RunLife(w, shifted, true, 3)), want)
		}
	}
	// What does not come to the border is shifted there, too.
	few := evenField(20, 20, 0)
	few, _ = impl.PasteField(few, l.field(6, 6, 1), 7, 7)
	for rows := int64(-3); rows <= 3; rows++ {
		shifted, _ := impl.ShiftField(few, rows, 2*rows/3)
		behind, _ := impl.RunLife(conway(), few, false, 3)
		want, _ := impl.ShiftField(behind, rows, 2*rows/3)
		wantOnly(t, "the life of a shifted field, not round", all(impl.RunLife(conway(), shifted, false, 3)), want)
	}
}

func TestIsStill(t *testing.T) {
	for _, f := range []impl.Field{
		evenField(4, 4, 0), fieldOf("000000", "001100", "010010", "001100", "000000"), fieldOf("00000", "01100", "01010", "00100", "00000"),
	} {
		for _, round := range []bool{false, true} {
			wantOnly(t, named("IsStill", f), all(impl.IsStill(conway(), f, round)), true)
		}
	}
	wantOnly(t, "IsStill of a row of three", all(impl.IsStill(conway(), fieldOf("000", "111", "000"), false)), false)
	wantOnly(t, "IsStill where Born has 0", all(impl.IsStill(impl.Life{Born: []int64{0}}, fieldOf("0"), false)), false)
	wantOnly(t, "IsStill where nothing lives", all(impl.IsStill(impl.Life{}, fieldOf("00", "01"), false)), false)
}

// moveOf returns when a field comes again, told by the document's words.
func moveOf(w impl.Life, f impl.Field, most int64) []any {
	now := f
	for step := int64(1); step <= most; step++ {
		now = nextLife(w, now, true)
		for rows := range f.Rows {
			for columns := range f.Columns {
				if shown(shiftOf(f, rows, columns)) == shown(now) {
					return []any{step, rows, columns, true}
				}
			}
		}
	}
	return nil
}

func TestMoveOf(t *testing.T) {
	l := &luck{47}
	moved, none := 0, 0
	for _, s := range [][2]int64{{1, 1}, {1, 2}, {2, 1}, {2, 2}, {1, 5}, {4, 1}, {2, 3}, {3, 3}, {3, 4}, {4, 4}} {
		for range 25 {
			w, f := l.life(), l.field(s[0], s[1], 1)
			got, want := all(impl.MoveOf(w, f, 6)), moveOf(w, f, 6)
			if want == nil {
				none++
				wantNone(t, named("MoveOf", w, f), got)
				continue
			}
			if want[1] != int64(0) || want[2] != int64(0) {
				moved++
			}
			if shown(got...) != shown(want...) {
				t.Errorf("MoveOf(%v, %v): got %v, want %v", w, f, got, want)
			}
		}
	}
	if moved < 10 || none < 10 {
		t.Errorf("%d fields moved, and %d did not come again: too few to tell", moved, none)
	}
}

func TestMovesThatAreKnown(t *testing.T) {
	glider := fieldOf("0100000", "0010000", "1110000", "0000000", "0000000", "0000000")
	wantAll(t, "a glider", all(impl.MoveOf(conway(), glider, 4)), 4, 1, 1)
	wantNone(t, "a glider, too few steps", all(impl.MoveOf(conway(), glider, 3)))
	mirrored, _ := impl.MirrorField(glider)
	wantAll(t, "a mirrored glider", all(impl.MoveOf(conway(), mirrored, impl.MaxRuns)), 4, 1, 6)
	wantAll(t, "a block", all(impl.MoveOf(conway(), fieldOf("0000", "0110", "0110", "0000"), 1)), 1, 0, 0)
	wantAll(t, "a row of three", all(impl.MoveOf(conway(), fieldOf("00000", "00000", "01110", "00000", "00000"), 9)), 2, 0, 0)
	wantAll(t, "no cells", all(impl.MoveOf(conway(), evenField(24, 24, 0), 1)), 1, 0, 0)
	wantNone(t, "what dies", all(impl.MoveOf(conway(), fieldOf("0000", "0100", "0000"), impl.MaxRuns)))
	// Equal rows and columns make many shifts the same: the first one is told.
	stripes := impl.Life{Born: []int64{6}, Stay: nil}
	wantAll(t, "columns that change", all(impl.MoveOf(stripes, fieldOf("0101", "0101", "0101"), 5)), 1, 0, 1)
	turned, _ := impl.TurnField(fieldOf("0101", "0101", "0101"))
	wantAll(t, "rows that change", all(impl.MoveOf(stripes, turned, 5)), 1, 1, 0)
	// A board of chess can be shifted by a row, or by a column; the latter is first.
	wantAll(t, "a board of chess", all(impl.MoveOf(impl.Life{Born: []int64{4}}, fieldOf("0101", "1010", "0101", "1010"), 5)), 1, 0, 1)
	wantAll(t, "a glider on the greatest field", all(impl.MoveOf(conway(), gliderOn(24, 20, 20), impl.MaxRuns)), 4, 1, 1)
	wantLimits(t, "MoveOf", 1, impl.MaxRuns, func(n int64) []any { return all(impl.MoveOf(conway(), fieldOf("00", "00"), n)) })
}

// The least number of steps is found if it is just the greatest one.
func TestLongMoves(t *testing.T) {
	for side := int64(6); side <= impl.MaxField; side++ {
		for most := int64(1); most <= 8; most++ {
			got := all(impl.MoveOf(conway(), gliderOn(side, 0, side-1), most))
			wantBool(t, named("MoveOf of a glider, at most", most), succeeds(got), most >= 4)
		}
	}
	// In a row, each cell becomes the sum of the cells beside it.
	adds, row := impl.Life{Born: []int64{3}, Stay: []int64{5}}, fieldOf("1111100100011100010")
	want := moveOf(adds, row, 511)
	wantAll(t, "a row", all(impl.MoveOf(adds, row, 511)), want[:3]...)
	wantAll(t, "a row with MaxRuns", all(impl.MoveOf(adds, row, impl.MaxRuns)), 511, want[1], want[2])
	wantNone(t, "a row with a step less", all(impl.MoveOf(adds, row, 510)))
	turned := must(t)(impl.TurnField(row))
	wantAll(t, "a column", all(impl.MoveOf(adds, turned, 511)), 511, want[2], want[1])
}

// gliderOn returns a square field with a glider, round and round, at a place.
func gliderOn(side, row, column int64) impl.Field {
	glider := fieldOf("010", "001", "111")
	return fieldThat(side, side, func(i, k int64) int64 {
		i, k = around(i-row, side), around(k-column, side)
		return cellAt(glider, i, k, false)
	})
}
