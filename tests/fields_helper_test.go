package tests

import (
	"fmt"
	"slices"
	"testing"

	"loop.example/g01381/impl"
)

// fieldOf returns the field whose rows are told as texts.
func fieldOf(rows ...string) impl.Field {
	f := impl.Field{Rows: int64(len(rows)), Columns: int64(len(rows[0]))}
	for _, row := range rows {
		f.Cells = append(f.Cells, cellsOf(row)...)
	}
	return f
}

// fieldThat returns the field whose cells are told by a function.
func fieldThat(rows, columns int64, tell func(row, column int64) int64) impl.Field {
	f := impl.Field{Rows: rows, Columns: columns}
	for row := range rows {
		for column := range columns {
			f.Cells = append(f.Cells, tell(row, column))
		}
	}
	return f
}

// evenField returns a field of equal cells.
func evenField(rows, columns, state int64) impl.Field {
	return fieldThat(rows, columns, func(row, column int64) int64 { return state })
}

// around returns the place among some places, going round and round.
func around(n, places int64) int64 {
	for n < 0 {
		n += places
	}
	for n >= places {
		n -= places
	}
	return n
}

// cellAt returns a cell, which is 0 beyond the border if the field is not round.
func cellAt(f impl.Field, row, column int64, round bool) int64 {
	if round {
		row, column = around(row, f.Rows), around(column, f.Columns)
	}
	if row < 0 || row >= f.Rows || column < 0 || column >= f.Columns {
		return 0
	}
	return f.Cells[row*f.Columns+column]
}

// field draws a field with cells from 0 to most.
func (l *luck) field(rows, columns, most int64) impl.Field {
	return impl.Field{Rows: rows, Columns: columns, Cells: l.states(rows*columns, most+1)}
}

// life draws a life.
func (l *luck) life() impl.Life {
	var w impl.Life
	for n := range int64(9) {
		if l.below(3) == 0 {
			w.Born = append(w.Born, n)
		}
		if l.below(2) == 0 {
			w.Stay = append(w.Stay, n)
		}
	}
	return w
}

// extents are rows and columns at which functions are likely to be wrong.
func extents() [][2]int64 {
	const most = impl.MaxField
	return [][2]int64{
		{1, 1}, {1, 2}, {2, 1}, {2, 2}, {1, 3}, {3, 1}, {2, 3}, {3, 2}, {3, 3}, {4, 4}, {2, 4},
		{4, 2}, {5, 7}, {7, 5}, {6, 4}, {1, most}, {most, 1}, {2, most}, {most, 2}, {most - 1, most}, {most, most},
	}
}

// drawnFields returns fields of all extents with cells from 0 to most: drawn
// ones, and those that are all 0, or all most.
func drawnFields(seed uint64, most int64) []impl.Field {
	l := &luck{seed}
	var fields []impl.Field
	for _, s := range extents() {
		fields = append(fields, evenField(s[0], s[1], 0), evenField(s[0], s[1], most))
		for range 3 {
			fields = append(fields, l.field(s[0], s[1], most))
		}
	}
	return fields
}

// badFields returns fields that are not valid.
func badFields() []impl.Field {
	const end = 1<<63 - 1
	fields := []impl.Field{
		{}, {Cells: []int64{}}, {Cells: []int64{0}},
		{Rows: 1, Columns: 1}, {Rows: 1, Columns: 1, Cells: []int64{}}, {Rows: 1, Columns: 1, Cells: []int64{0, 0}},
		{Rows: 1, Columns: 1, Cells: []int64{-1}}, {Rows: 1, Columns: 1, Cells: []int64{impl.MaxCell + 1}},
		{Rows: 1, Columns: 2, Cells: []int64{0}}, {Rows: 2, Columns: 2, Cells: []int64{0, 1, 1}},
		{Rows: 2, Columns: 2, Cells: []int64{0, 1, 1, 0, 1}}, {Rows: 2, Columns: 2, Cells: []int64{0, 1, 1, end}},
		{Rows: 2, Columns: 2, Cells: []int64{-end - 1, 1, 1, 0}}, {Rows: 0, Columns: 1}, {Rows: 1, Columns: 0},
		{Rows: 0, Columns: 1, Cells: []int64{0}}, {Rows: -1, Columns: -1, Cells: []int64{0}},
		{Rows: -2, Columns: -2, Cells: []int64{0, 0, 0, 0}}, {Rows: end, Columns: end, Cells: []int64{0}},
		{Rows: -end - 1, Columns: -end - 1}, {Rows: -end - 1, Columns: 2}, {Rows: 1 << 32, Columns: 1 << 32},
		{Rows: 1 << 62, Columns: 4}, {Rows: 2, Columns: end}, {Rows: -1, Columns: end, Cells: []int64{0}},
	}
	for _, s := range [][2]int64{{impl.MaxField + 1, 1}, {1, impl.MaxField + 1}, {impl.MaxField + 1, impl.MaxField}, {impl.MaxField, impl.MaxField + 1}} {
		fields = append(fields, evenField(s[0], s[1], 0))
	}
	short := evenField(impl.MaxField, impl.MaxField, 1)
	short.Cells = short.Cells[1:]
	return append(fields, short)
}

// notPlain returns valid fields that are not plain, and fields that are not
// valid.
func notPlain() []impl.Field {
	fields := []impl.Field{fieldOf("2"), fieldOf("9"), fieldOf("0102"), fieldOf("2000", "0000"), fieldOf("00", "03"), fieldOf("10", "02", "10", "01")}
	last := evenField(impl.MaxField, impl.MaxField, 1)
	last.Cells[len(last.Cells)-1] = 2
	return append(badFields(), append(fields, last)...)
}

// goodLives returns lives that are valid.
func goodLives() []impl.Life {
	l := &luck{211}
	every := []int64{0, 1, 2, 3, 4, 5, 6, 7, 8}
	lives := []impl.Life{
		{}, conway(), {Born: []int64{3, 6}, Stay: []int64{2, 3}}, {Born: []int64{2}}, {Stay: every},
		{Born: every}, {Born: every, Stay: every}, {Born: []int64{0}}, {Born: []int64{8}, Stay: []int64{8}},
		{Born: []int64{0, 8}, Stay: []int64{0, 8}}, {Born: []int64{1, 3, 5, 7}, Stay: []int64{1, 3, 5, 7}},
	}
	for range 8 {
		lives = append(lives, l.life())
	}
	return lives
}

// badLives returns lives that are not valid.
func badLives() []impl.Life {
	const end = 1<<63 - 1
	var lives []impl.Life
	for _, list := range [][]int64{
		{9}, {-1}, {0, 0}, {8, 8}, {3, 2}, {2, 3, 3}, {0, 1, 2, 1}, {8, 9}, {-1, 0}, {end}, {-end - 1}, {0, end},
		{0, 1, 2, 3, 4, 5, 6, 7, 8, 9}, {0, 1, 2, 3, 4, 5, 6, 7, 8, 8}, {8, 7, 6, 5, 4, 3, 2, 1, 0},
	} {
		lives = append(lives, impl.Life{Born: list}, impl.Life{Stay: list}, impl.Life{Born: list, Stay: list},
			impl.Life{Born: []int64{3}, Stay: list}, impl.Life{Born: list, Stay: []int64{2, 3}})
	}
	return lives
}

// conway returns the life with Born 3 and Stay 2 and 3.
func conway() impl.Life { return impl.Life{Born: []int64{3}, Stay: []int64{2, 3}} }

// nextLife returns the next field, told by the document's words.
func nextLife(w impl.Life, f impl.Field, round bool) impl.Field {
	return fieldThat(f.Rows, f.Columns, func(row, column int64) int64 {
		var near int64
		for i := row - 1; i <= row+1; i++ {
			for k := column - 1; k <= column+1; k++ {
				if i != row || k != column {
					near += cellAt(f, i, k, round)
				}
			}
		}
		list := w.Born
		if cellAt(f, row, column, round) == 1 {
			list = w.Stay
		}
		if slices.Contains(list, near) {
			return 1
		}
		return 0
	})
}

// runLife returns the field behind steps, told by the document's words.
func runLife(w impl.Life, f impl.Field, round bool, steps int64) impl.Field {
	for range steps {
		f = nextLife(w, f, round)
	}
	return f
}

// shiftOf returns a shifted field, told by the document's words.
func shiftOf(f impl.Field, rows, columns int64) impl.Field {
	return fieldThat(f.Rows, f.Columns, func(row, column int64) int64 {
		return cellAt(f, row-rows, column-columns, true)
	})
}

// images are shifts, turns and mirrors of fields.
func images(t *testing.T) map[string]func(f impl.Field) impl.Field {
	return map[string]func(f impl.Field) impl.Field{
		"turned":   func(f impl.Field) impl.Field { return must(t)(impl.TurnField(f)) },
		"mirrored": func(f impl.Field) impl.Field { return must(t)(impl.MirrorField(f)) },
	}
}

// must returns a function that returns the field with which a call succeeds.
func must(t *testing.T) func(f impl.Field, ok bool) impl.Field {
	return func(f impl.Field, ok bool) impl.Field {
		t.Helper()
		if !ok {
			t.Fatal("a call failed")
		}
		return f
	}
}

// wantAll checks a call that succeeds with some results.
func wantAll(t *testing.T, what string, results []any, want ...any) {
	t.Helper()
	if got := shown(results...); got != shown(append(want, true)...) {
		t.Errorf("%s: got %s, want %s, true", what, got, shown(want...))
	}
}

// wantField checks a field.
func wantField(t *testing.T, what string, got, want impl.Field) {
	t.Helper()
	if shown(got) != shown(want) {
		t.Errorf("%s: got %v, want %v", what, got, want)
	}
}

// ends are the least and the greatest integers, and some between.
func ends() []int64 {
	const end = 1<<63 - 1
	return []int64{-end - 1, -end, -1 << 62, -1 << 32, -1, 1 << 32, 1 << 62, end - 1, end}
}

// named tells what a call is of.
func named(name string, arguments ...any) string { return name + " of " + fmt.Sprint(arguments...) }
