package tests

import (
	"slices"
	"testing"

	"loop.example/g01381/impl"
)

func TestFieldExamples(t *testing.T) {
	block := fieldOf("0000", "0110", "0110", "0000")
	for _, round := range []bool{false, true} {
		wantOnly(t, "a block of four is still", all(impl.IsStill(conway(), block, round)), true)
		wantOnly(t, "a row of three", all(impl.StepLife(conway(), fieldOf("00000", "00000", "01110", "00000", "00000"), round)),
			fieldOf("00000", "00100", "00100", "00100", "00000"))
	}
	wantAll(t, "a heap of 4 on one cell", all(impl.SettleHeap(fieldOf("4"))), fieldOf("0"), 1)
	wantOnly(t, "fields with 1 row and 2 columns", all(impl.CountThrough(1, 2)), []int64{0, 2, 1})
}

func TestValidField(t *testing.T) {
	const most = impl.MaxField
	for rows := int64(-2); rows <= most+2; rows++ {
		for columns := int64(-2); columns <= most+2; columns++ {
			fine := rows >= 1 && rows <= most && columns >= 1 && columns <= most
			f := impl.Field{Rows: rows, Columns: columns, Cells: make([]int64, max(rows*columns, 0))}
			wantBool(t, named("ValidField", rows, columns), impl.ValidField(f), fine)
			f.Cells = append(f.Cells, 0)
			wantBool(t, "ValidField of a cell more", impl.ValidField(f), false)
			f.Cells = make([]int64, max(rows*columns-1, 0))
			wantBool(t, "ValidField of a cell less", impl.ValidField(f), false)
		}
	}
	for _, s := range extents() {
		for state := int64(-2); state <= impl.MaxCell+2; state++ {
			for _, at := range []int64{0, s[0] * s[1] / 2, s[0]*s[1] - 1} {
				f := evenField(s[0], s[1], impl.MaxCell)
				f.Cells[at] = state
				wantBool(t, named("ValidField", f), impl.ValidField(f), state >= 0 && state <= impl.MaxCell)
			}
		}
	}
	for _, f := range badFields() {
		wantBool(t, named("ValidField", f), impl.ValidField(f), false)
	}
}

func TestSameField(t *testing.T) {
	fields := append(drawnFields(3, 2), badFields()...)
	for _, a := range fields {
		for _, b := range fields {
			wantBool(t, named("SameField", a, b), impl.SameField(a, b), shown(a) == shown(b))
		}
	}
	wantBool(t, "no cells and an empty list", impl.SameField(impl.Field{Rows: 7}, impl.Field{Rows: 7, Cells: []int64{}}), true)
	f := fieldOf("012", "345")
	for _, other := range []impl.Field{
		{Rows: 3, Columns: 3, Cells: f.Cells}, {Rows: 2, Columns: 2, Cells: f.Cells}, {Rows: 3, Columns: 2, Cells: f.Cells},
		{Rows: 2, Columns: 3, Cells: f.Cells[:5]}, {Rows: 2, Columns: 3, Cells: append(slices.Clone(f.Cells), 0)},
		fieldOf("112", "345"), fieldOf("012", "344"),
	} {
		wantBool(t, "another field", impl.SameField(f, other), false)
		wantBool(t, "another field, exchanged", impl.SameField(other, f), false)
	}
}

func TestNewField(t *testing.T) {
	for _, s := range extents() {
		wantOnly(t, "NewField", all(impl.NewField(s[0], s[1])), evenField(s[0], s[1], 0))
	}
	wantLimits(t, "NewField with rows", 1, impl.MaxField, func(n int64) []any { return all(impl.NewField(n, 2)) })
	wantLimits(t, "NewField with columns", 1, impl.MaxField, func(n int64) []any { return all(impl.NewField(2, n)) })
	for _, n := range append(ends(), 0, impl.MaxField+1) {
		for _, m := range append(ends(), 0, impl.MaxField+1) {
			wantNone(t, "NewField", all(impl.NewField(n, m)))
		}
	}
}

func TestShiftField(t *testing.T) {
	for _, f := range drawnFields(5, impl.MaxCell) {
		for _, rows := range []int64{-impl.MaxField, -7, -2, -1, 0, 1, 3, impl.MaxField - 1, impl.MaxField} {
			for _, columns := range []int64{-impl.MaxField, -5, -2, -1, 0, 1, 4, impl.MaxField - 1, impl.MaxField} {
				wantOnly(t, named("ShiftField", f, rows, columns), all(impl.ShiftField(f, rows, columns)), shiftOf(f, rows, columns))
			}
		}
	}
	f := fieldOf("012", "345", "678", "987")
	for rows := int64(-impl.MaxField); rows <= impl.MaxField; rows++ {
		for columns := int64(-impl.MaxField); columns <= impl.MaxField; columns++ {
			there, _ := impl.ShiftField(f, rows, columns)
			wantField(t, "ShiftField", there, shiftOf(f, rows, columns))
			wantOnly(t, "ShiftField back", all(impl.ShiftField(there, -rows, -columns)), f)
		}
	}
	wantOnly(t, "one column on", all(impl.ShiftField(fieldOf("123", "456"), 0, 1)), fieldOf("312", "645"))
	wantOnly(t, "one row on", all(impl.ShiftField(fieldOf("12", "34", "56"), 1, 0)), fieldOf("56", "12", "34"))
	wantOnly(t, "one row back", all(impl.ShiftField(fieldOf("12", "34", "56"), -1, 0)), fieldOf("34", "56", "12"))
	wantLimits(t, "ShiftField with rows", -impl.MaxField, impl.MaxField, func(n int64) []any { return all(impl.ShiftField(f, n, 0)) })
	wantLimits(t, "ShiftField with columns", -impl.MaxField, impl.MaxField, func(n int64) []any { return all(impl.ShiftField(f, 0, n)) })
}

func TestTurnsAndMirrors(t *testing.T) {
	wantOnly(t, "TurnField", all(impl.TurnField(fieldOf("123", "456"))), fieldOf("41", "52", "63"))
	wantOnly(t, "TurnField of a row", all(impl.TurnField(fieldOf("123"))), fieldOf("1", "2", "3"))
	wantOnly(t, "TurnField of a column", all(impl.TurnField(fieldOf("1", "2", "3"))), fieldOf("321"))
	wantOnly(t, "MirrorField", all(impl.MirrorField(fieldOf("123", "456"))), fieldOf("321", "654"))
	for _, f := range drawnFields(7, impl.MaxCell) {
		turned := fieldThat(f.Columns, f.Rows, func(i, k int64) int64 { return f.Cells[(f.Rows-1-k)*f.Columns+i] })
		wantOnly(t, named("TurnField", f), all(impl.TurnField(f)), turned)
		mirrored := fieldThat(f.Rows, f.Columns, func(i, k int64) int64 { return f.Cells[i*f.Columns+f.Columns-1-k] })
		wantOnly(t, named("MirrorField", f), all(impl.MirrorField(f)), mirrored)
		wantOnly(t, "MirrorField twice", all(impl.MirrorField(mirrored)), f)
		back := f
		for range 4 {
			back = must(t)(impl.TurnField(back))
		}
		wantField(t, "four turns", back, f)
		// To turn a mirrored field is to mirror it turned three times.
		left := must(t)(impl.TurnField(mirrored))
		for range 3 {
			left = must(t)(impl.TurnField(left))
		}
		wantField(t, "four turns of a mirrored field", left, mirrored)
	}
}

// partsWithin calls part with all parts of a field, and with others that are
// not within it, and tells which ones are.
func partsWithin(f impl.Field, part func(row, column, rows, columns int64, fine bool)) {
	for row := int64(-1); row <= f.Rows+1; row++ {
		for column := int64(-1); column <= f.Columns+1; column++ {
			for rows := int64(-1); rows <= f.Rows+1; rows++ {
				for columns := int64(-1); columns <= f.Columns+1; columns++ {
					part(row, column, rows, columns, row >= 0 && column >= 0 && rows >= 1 && columns >= 1 &&
						row+rows <= f.Rows && column+columns <= f.Columns)
				}
			}
		}
	}
}

func TestCutField(t *testing.T) {
	for _, f := range []impl.Field{fieldOf("7"), fieldOf("123"), fieldOf("1", "2", "3"), fieldOf("1234", "5678", "9012"), fieldOf("12345", "67890", "13579", "24680")} {
		partsWithin(f, func(row, column, rows, columns int64, fine bool) {
			what := named("CutField", f, row, column, rows, columns)
			if !fine {
				wantNone(t, what, all(impl.CutField(f, row, column, rows, columns)))
				return
			}
			wantOnly(t, what, all(impl.CutField(f, row, column, rows, columns)), fieldThat(rows, columns, func(i, k int64) int64 {
				return f.Cells[(row+i)*f.Columns+column+k]
			}))
		})
	}
	for _, f := range drawnFields(11, impl.MaxCell) {
		wantOnly(t, "CutField of all", all(impl.CutField(f, 0, 0, f.Rows, f.Columns)), f)
		last := impl.Field{Rows: 1, Columns: 1, Cells: f.Cells[len(f.Cells)-1:]}
		wantOnly(t, "CutField of the last cell", all(impl.CutField(f, f.Rows-1, f.Columns-1, 1, 1)), last)
		wantNone(t, "CutField one too wide", all(impl.CutField(f, 0, 0, f.Rows, f.Columns+1)))
		wantNone(t, "CutField one too high", all(impl.CutField(f, 0, 0, f.Rows+1, f.Columns)))
		for _, n := range ends() {
			wantNone(t, "CutField far", all(impl.CutField(f, n, 0, 1, 1)))
			wantNone(t, "CutField far", all(impl.CutField(f, 0, n, 1, 1)))
			wantNone(t, "CutField far", all(impl.CutField(f, 0, 0, n, 1)))
			wantNone(t, "CutField far", all(impl.CutField(f, 0, 0, 1, n)))
			wantNone(t, "CutField far", all(impl.CutField(f, n, n, -n, -n)))
			wantNone(t, "CutField far", all(impl.CutField(f, n, n, n, n)))
		}
	}
}

func TestPasteField(t *testing.T) {
	l := &luck{13}
	for _, f := range []impl.Field{fieldOf("7"), fieldOf("123"), fieldOf("1", "2", "3"), fieldOf("1234", "5678", "9012")} {
		partsWithin(f, func(row, column, rows, columns int64, fine bool) {
			if rows < 1 || columns < 1 {
				return
			}
			p := l.field(rows, columns, impl.MaxCell)
			what := named("PasteField", f, p, row, column)
			if !fine {
				wantNone(t, what, all(impl.PasteField(f, p, row, column)))
				return
			}
			wantOnly(t, what, all(impl.PasteField(f, p, row, column)), fieldThat(f.Rows, f.Columns, func(i, k int64) int64 {
				if i >= row && i < row+rows && k >= column && k < column+columns {
					return p.Cells[(i-row)*columns+k-column]
				}
				return f.Cells[i*f.Columns+k]
			}))
			pasted, _ := impl.PasteField(f, p, row, column)
			wantOnly(t, "what was pasted is cut", all(impl.CutField(pasted, row, column, rows, columns)), p)
		})
	}
	for _, f := range drawnFields(17, impl.MaxCell) {
		other := l.field(f.Rows, f.Columns, impl.MaxCell)
		wantOnly(t, "PasteField of all", all(impl.PasteField(f, other, 0, 0)), other)
		for _, n := range ends() {
			wantNone(t, "PasteField far", all(impl.PasteField(f, fieldOf("1"), n, 0)))
			wantNone(t, "PasteField far", all(impl.PasteField(f, fieldOf("1"), 0, n)))
			wantNone(t, "PasteField far", all(impl.PasteField(f, fieldOf("1"), n, n)))
		}
	}
}

func TestCountCells(t *testing.T) {
	for _, f := range drawnFields(19, impl.MaxCell) {
		var sum int64
		for state := int64(-2); state <= impl.MaxCell+2; state++ {
			var want int64
			for _, x := range f.Cells {
				if x == state {
					want++
				}
			}
			wantOnly(t, named("CountCells", f, state), all(impl.CountCells(f, state)), want)
			sum += want
		}
		if sum != f.Rows*f.Columns {
			t.Errorf("%d of the cells of %v were counted", sum, f)
		}
		for _, state := range ends() {
			wantOnly(t, "CountCells of a state that none is", all(impl.CountCells(f, state)), 0)
		}
	}
}

func TestCellsApart(t *testing.T) {
	fields := drawnFields(23, 2)
	for _, a := range fields {
		wantOnly(t, "CellsApart of the same", all(impl.CellsApart(a, a)), 0)
		for _, b := range fields {
			if a.Rows != b.Rows || a.Columns != b.Columns {
				wantNone(t, "CellsApart of other extents", all(impl.CellsApart(a, b)))
				continue
			}
			var want int64
			for i := range a.Cells {
				if a.Cells[i] != b.Cells[i] {
					want++
				}
			}
			wantOnly(t, named("CellsApart", a, b), all(impl.CellsApart(a, b)), want)
		}
	}
	// As many cells are not as many rows and columns.
	wantNone(t, "CellsApart of a row and a column", all(impl.CellsApart(fieldOf("01"), fieldOf("0", "1"))))
	wantNone(t, "CellsApart of 2 x 3 and 3 x 2", all(impl.CellsApart(fieldOf("012", "012"), fieldOf("01", "20", "12"))))
}
