package tests

import (
	"slices"
	"testing"

	"loop.example/g01381/impl"
)

// table draws a table of 16 numbers, all different.
func (l *luck) table() []int64 {
	table := []int64{0, 1, 2, 3, 4, 5, 6, 7, 8, 9, 10, 11, 12, 13, 14, 15}
	for i := range table {
		k := i + int(l.below(int64(16-i)))
		table[i], table[k] = table[k], table[i]
	}
	return table
}

// drawnTables returns tables, that which changes nothing being the first one.
func drawnTables() [][]int64 {
	l := &luck{59}
	tables := [][]int64{
		{0, 1, 2, 3, 4, 5, 6, 7, 8, 9, 10, 11, 12, 13, 14, 15},
		{15, 14, 13, 12, 11, 10, 9, 8, 7, 6, 5, 4, 3, 2, 1, 0},
		{1, 2, 3, 4, 5, 6, 7, 8, 9, 10, 11, 12, 13, 14, 15, 0},
	}
	for range 8 {
		tables = append(tables, l.table())
	}
	return tables
}

// badTables returns lists that are no tables.
func badTables() [][]int64 {
	const end = 1<<63 - 1
	good := drawnTables()[3]
	tables := [][]int64{nil, {}, {0}, good[:15], append(slices.Clone(good), 0), append(slices.Clone(good), 16), many(int64(0), 16), many(int64(15), 16)}
	for at := range good {
		for _, n := range []int64{-1, 16, end, -end - 1, good[(at+1)%16], 1 << 32} {
			bad := slices.Clone(good)
			bad[at] = n
			tables = append(tables, bad)
		}
	}
	return tables
}

func TestTables(t *testing.T) {
	for _, table := range drawnTables() {
		wantBool(t, named("IsTurnTable", table), impl.IsTurnTable(table), true)
		back, ok := impl.BackTable(table)
		if !ok || len(back) != 16 {
			t.Errorf("BackTable(%v): got %v, %v", table, back, ok)
			continue
		}
		for i := range int64(16) {
			if back[table[i]] != i || table[back[i]] != i {
				t.Errorf("BackTable(%v): got %v", table, back)
			}
		}
		wantOnly(t, "BackTable of BackTable", all(impl.BackTable(back)), table)
	}
	wantOnly(t, "BackTable", all(impl.BackTable([]int64{1, 2, 3, 4, 5, 6, 7, 8, 9, 10, 11, 12, 13, 14, 15, 0})),
		[]int64{15, 0, 1, 2, 3, 4, 5, 6, 7, 8, 9, 10, 11, 12, 13, 14})
	for _, table := range badTables() {
		wantBool(t, named("IsTurnTable", table), impl.IsTurnTable(table), false)
		wantNone(t, named("BackTable", table), all(impl.BackTable(table)))
		for _, odd := range []bool{false, true} {
			wantNone(t, "BlockStep with what is no table", all(impl.BlockStep(fieldOf("01", "10"), table, odd)))
		}
	}
}

// blockStep returns the field behind a step of blocks, told cell by cell: each
// one looks for its block.
func blockStep(f impl.Field, table []int64, odd bool) impl.Field {
	return fieldThat(f.Rows, f.Columns, func(row, column int64) int64 {
		top, left := row-row%2, column-column%2
		if odd {
			top, left = row-(row+1)%2, column-(column+1)%2
		}
		n := cellAt(f, top, left, true) + 2*cellAt(f, top, left+1, true) +
			4*cellAt(f, top+1, left, true) + 8*cellAt(f, top+1, left+1, true)
		return table[n] / toThe(2, 2*(row-top)+column-left) % 2
	})
}

func TestBlockStep(t *testing.T) {
	for _, f := range drawnFields(61, 1) {
		for _, table := range drawnTables() {
			back, _ := impl.BackTable(table)
			for _, odd := range []bool{false, true} {
				got := all(impl.BlockStep(f, table, odd))
				if f.Rows%2 != 0 || f.Columns%2 != 0 {
					wantNone(t, named("BlockStep", f), got)
					continue
				}
				wantOnly(t, named("BlockStep", f, table, odd), got, blockStep(f, table, odd))
				wantOnly(t, "BlockStep back", all(impl.BlockStep(got[0].(impl.Field), back, odd)), f)
			}
		}
	}
}

// All fields of two rows and two columns.
func TestSmallBlocks(t *testing.T) {
	for _, table := range drawnTables() {
		for n := range int64(16) {
			even := fieldOf(string([]byte{'0' + byte(n&1), '0' + byte(n>>1&1)}), string([]byte{'0' + byte(n>>2&1), '0' + byte(n>>3&1)}))
			m := table[n]
			wantOnly(t, "a block", all(impl.BlockStep(even, table, false)), impl.Field{Rows: 2, Columns: 2, Cells: []int64{m & 1, m >> 1 & 1, m >> 2 & 1, m >> 3 & 1}})
			// The upper left cell of the odd block is the lower right one of the field.
			odd := impl.Field{Rows: 2, Columns: 2, Cells: []int64{n >> 3 & 1, n >> 2 & 1, n >> 1 & 1, n & 1}}
			wantOnly(t, "an odd block", all(impl.BlockStep(odd, table, true)), impl.Field{Rows: 2, Columns: 2, Cells: []int64{m >> 3 & 1, m >> 2 & 1, m >> 1 & 1, m & 1}})
		}
	}
	// Each block turns to the right: a cell alone goes around.
	right := []int64{0, 2, 8, 10, 1, 3, 9, 11, 4, 6, 12, 14, 5, 7, 13, 15}
	wantOnly(t, "blocks turn", all(impl.BlockStep(fieldOf("1000", "0000"), right, false)), fieldOf("0100", "0000"))
	wantOnly(t, "odd blocks turn", all(impl.BlockStep(fieldOf("1000", "0000"), right, true)), fieldOf("0001", "0000"))
}

// A world of blocks leads back step by step.
func TestBlocksLeadBack(t *testing.T) {
	l := &luck{67}
	for _, table := range drawnTables() {
		back, _ := impl.BackTable(table)
		start := l.field(impl.MaxField, 10, 1)
		now := start
		for i := range 20 {
			now = must(t)(impl.BlockStep(now, table, i%2 == 1))
		}
		for i := range 20 {
			now = must(t)(impl.BlockStep(now, back, i%2 == 0))
		}
		wantField(t, "back", now, start)
	}
}

func TestBlocksThatFail(t *testing.T) {
	table := drawnTables()[4]
	for _, odd := range []bool{false, true} {
		for _, f := range notPlain() {
			wantNone(t, named("BlockStep", f), all(impl.BlockStep(f, table, odd)))
		}
		for rows := int64(1); rows <= impl.MaxField; rows++ {
			for columns := int64(1); columns <= impl.MaxField; columns++ {
				f := evenField(rows, columns, 1)
				wantBool(t, named("BlockStep", rows, columns), succeeds(all(impl.BlockStep(f, table, odd))), rows%2+columns%2 == 0)
			}
		}
	}
}

// ant is one that walks on a plane of black places, told by the document's words.
type ant struct {
	black       map[[2]int64]bool
	row, column int64
	way         string
}

// step lets the ant make a step, on a field of some rows and columns.
func (a *ant) step(rows, columns int64) {
	here := [2]int64{a.row, a.column}
	right := map[string]string{"up": "right", "right": "down", "down": "left", "left": "up"}
	left := map[string]string{"up": "left", "left": "down", "down": "right", "right": "up"}
	if a.black[here] {
		a.way = left[a.way]
	} else {
		a.way = right[a.way]
	}
	a.black[here] = !a.black[here]
	switch a.way {
	case "up":
		a.row = around(a.row-1, rows)
	case "down":
		a.row = around(a.row+1, rows)
	case "left":
		a.column = around(a.column-1, columns)
	case "right":
		a.column = around(a.column+1, columns)
	}
}

// runAnt returns what an ant makes, told by the document's words.
func runAnt(f impl.Field, row, column, way, steps int64) []any {
	names := []string{"up", "right", "down", "left"}
	a := &ant{black: map[[2]int64]bool{}, row: row, column: column, way: names[way]}
	for i, x := range f.Cells {
		a.black[[2]int64{int64(i) / f.Columns, int64(i) % f.Columns}] = x == 1
	}
	for range steps {
		a.step(f.Rows, f.Columns)
	}
	made := fieldThat(f.Rows, f.Columns, func(i, k int64) int64 { return oneIf(a.black[[2]int64{i, k}]) })
	return []any{made, a.row, a.column, int64(slices.Index(names, a.way))}
}

func TestRunAnt(t *testing.T) {
	l := &luck{71}
	for _, f := range drawnFields(73, 1) {
		for way := range int64(4) {
			row, column := l.below(f.Rows), l.below(f.Columns)
			for _, steps := range []int64{0, 1, 2, 3, 4, 5, 37, 200} {
				wantAll(t, named("RunAnt", f, row, column, way, steps), all(impl.RunAnt(f, row, column, way, steps)), runAnt(f, row, column, way, steps)...)
			}
		}
		wantAll(t, "RunAnt from the last cell", all(impl.RunAnt(f, f.Rows-1, f.Columns-1, 1, 9)), runAnt(f, f.Rows-1, f.Columns-1, 1, 9)...)
	}
	big := l.field(impl.MaxField, impl.MaxField, 1)
	wantAll(t, "RunAnt of most steps", all(impl.RunAnt(big, 12, 12, 0, 4096)), runAnt(big, 12, 12, 0, 4096)...)
}

func TestAntsThatAreKnown(t *testing.T) {
	white := evenField(3, 3, 0)
	wantAll(t, "an ant goes to the right", all(impl.RunAnt(white, 1, 1, 0, 1)), fieldOf("000", "010", "000"), 1, 2, 1)
	wantAll(t, "and around a block", all(impl.RunAnt(white, 1, 1, 0, 4)), fieldOf("000", "011", "011"), 1, 1, 0)
	wantAll(t, "and then to the left", all(impl.RunAnt(white, 1, 1, 0, 5)), fieldOf("000", "001", "011"), 1, 0, 3)
	wantAll(t, "on a black cell", all(impl.RunAnt(fieldOf("000", "010", "000"), 1, 1, 0, 1)), white, 1, 0, 3)
	wantAll(t, "one cell alone", all(impl.RunAnt(fieldOf("0"), 0, 0, 3, 3)), fieldOf("1"), 0, 0, 0)
	wantAll(t, "beyond the border", all(impl.RunAnt(white, 0, 2, 0, 1)), fieldOf("001", "000", "000"), 0, 0, 1)
	wantAll(t, "beyond the upper border", all(impl.RunAnt(white, 0, 1, 3, 1)), fieldOf("010", "000", "000"), 2, 1, 0)
}

func TestAntLimits(t *testing.T) {
	f := fieldOf("0110", "1001", "0111")
	wantLimits(t, "RunAnt from a row", 0, 2, func(n int64) []any { return all(impl.RunAnt(f, n, 1, 2, 3)) })
	wantLimits(t, "RunAnt from a column", 0, 3, func(n int64) []any { return all(impl.RunAnt(f, 1, n, 2, 3)) })
	wantLimits(t, "RunAnt in a way", 0, 3, func(n int64) []any { return all(impl.RunAnt(f, 1, 1, n, 3)) })
	wantLimits(t, "RunAnt steps", 0, 4096, func(n int64) []any { return all(impl.RunAnt(f, 1, 1, 2, n)) })
	for _, bad := range notPlain() {
		for _, steps := range []int64{0, 1} {
			wantNone(t, named("RunAnt", bad), all(impl.RunAnt(bad, 0, 0, 0, steps)))
		}
	}
}
