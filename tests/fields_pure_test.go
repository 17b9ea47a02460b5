package tests

import (
	"slices"
	"testing"

	"loop.example/g01381/impl"
)

// Any number of workers returns the same.
func TestFieldsShared(t *testing.T) {
	l := &luck{157}
	for size := 1; size <= 16; size++ {
		for _, round := range []bool{false, true} {
			w, steps := l.life(), l.below(6)
			list, want := make([]impl.Field, size), make([]impl.Field, size)
			for i := range list {
				list[i] = l.field(1+l.below(impl.MaxField), 1+l.below(impl.MaxField), 1)
				want[i] = runLife(w, list[i], round, steps)
			}
			for workers := int64(1); workers <= impl.MaxWorkers; workers++ {
				wantOnly(t, "FieldsShared", all(impl.FieldsShared(w, list, round, steps, workers)), want)
			}
		}
	}
	f := fieldOf("010", "010", "010")
	wantLimits(t, "FieldsShared with workers", 1, impl.MaxWorkers, func(n int64) []any {
		return all(impl.FieldsShared(conway(), []impl.Field{f, f}, true, 1, n))
	})
	wantLimits(t, "FieldsShared with steps", 0, impl.MaxRuns, func(n int64) []any {
		return all(impl.FieldsShared(conway(), []impl.Field{f, f}, true, n, 2))
	})
	for size := range 20 {
		got := all(impl.FieldsShared(conway(), many(f, size), false, 2, 3))
		if size < 1 || size > 16 {
			wantNone(t, "FieldsShared of so many fields", got)
		} else {
			wantOnly(t, "FieldsShared of equal fields", got, many(runLife(conway(), f, false, 2), size))
		}
	}
	wantNone(t, "FieldsShared of no fields", all(impl.FieldsShared(conway(), nil, false, 0, 1)))
}

// One field that is not plain makes all fail, wherever it stands.
func TestFieldsSharedThatFail(t *testing.T) {
	for at := range 16 {
		for _, bad := range notPlain() {
			list := many(fieldOf("01", "11"), 16)
			list[at] = bad
			for _, workers := range []int64{1, 3, impl.MaxWorkers} {
				wantNone(t, "FieldsShared of a bad field", all(impl.FieldsShared(conway(), list, true, 1, workers)))
			}
		}
	}
	wantEnded(t, func() {
		impl.FieldsShared(conway(), many(evenField(5, 5, 1), 16), true, 9, impl.MaxWorkers)
		impl.FieldsShared(conway(), []impl.Field{{}, fieldOf("1"), fieldOf("2")}, true, 9, impl.MaxWorkers)
		impl.FieldsShared(conway(), []impl.Field{fieldOf("1")}, true, -1, impl.MaxWorkers)
	})
}

// callsOfFields calls each function of chapter 4 that takes a field, with it and
// with another one.
func callsOfFields(f, p impl.Field, w impl.Life, table []int64) map[string][]any {
	return map[string][]any{
		"ValidField":      all(impl.ValidField(f)),
		"SameField":       all(impl.SameField(f, p) && impl.SameField(p, f)),
		"ShiftField":      all(impl.ShiftField(f, 1, -1)),
		"ShiftField, 0":   all(impl.ShiftField(f, 0, 0)),
		"TurnField":       all(impl.TurnField(f)),
		"MirrorField":     all(impl.MirrorField(f)),
		"CutField":        all(impl.CutField(f, 0, 0, 1, 1)),
		"CutField, all":   all(impl.CutField(f, 0, 0, f.Rows, f.Columns)),
		"PasteField":      all(impl.PasteField(f, p, 0, 0)),
		"PasteField, on":  all(impl.PasteField(p, f, 0, 0)),
		"CountCells":      all(impl.CountCells(f, 1)),
		"CellsApart":      all(impl.CellsApart(f, p)),
		"StepLife":        all(impl.StepLife(w, f, false)),
		"StepLife, round": all(impl.StepLife(w, f, true)),
		"RunLife":         all(impl.RunLife(w, f, true, 3)),
		"RunLife, 0":      all(impl.RunLife(w, f, false, 0)),
		"IsStill":         all(impl.IsStill(w, f, false)),
		"MoveOf":          all(impl.MoveOf(w, f, 2)),
		"BlockStep":       all(impl.BlockStep(f, table, false)),
		"BlockStep, odd":  all(impl.BlockStep(f, table, true)),
		"RunAnt":          all(impl.RunAnt(f, 0, 0, 1, 5)),
		"RunAnt, 0":       all(impl.RunAnt(f, 0, 0, 1, 0)),
		"SettleHeap":      all(impl.SettleHeap(f)),
		"AddHeaps":        all(impl.AddHeaps(f, p)),
		"FireStep":        all(impl.FireStep(f)),
		"BurnAll":         all(impl.BurnAll(f)),
		"ClustersOf":      all(impl.ClustersOf(f)),
		"LeadsThrough":    all(impl.LeadsThrough(f)),
		"FieldsShared":    all(impl.FieldsShared(w, []impl.Field{f, f}, true, 2, 2)),
		"FieldsShared, 0": all(impl.FieldsShared(w, []impl.Field{f, f}, true, 0, 2)),
	}
}

// ofPlain are the functions that require plain fields.
func ofPlain() []string {
	return []string{
		"StepLife", "StepLife, round", "RunLife", "RunLife, 0", "IsStill", "MoveOf",
		"BlockStep", "BlockStep, odd", "RunAnt", "RunAnt, 0", "FieldsShared", "FieldsShared, 0",
	}
}

// ofLives are the functions that take lives.
func ofLives() []string {
	return []string{"StepLife", "StepLife, round", "RunLife", "RunLife, 0", "IsStill", "MoveOf", "FieldsShared", "FieldsShared, 0"}
}

func TestFieldsThatFail(t *testing.T) {
	table := drawnTables()[1]
	for name, results := range callsOfFields(fieldOf("11", "10"), fieldOf("01", "11"), impl.Life{Stay: []int64{1, 2, 3, 4, 5, 6}}, table) {
		if !succeeds(results) && name != "SameField" {
			t.Errorf("%s of fields that are valid: got %v", name, results)
		}
	}
	for _, bad := range badFields() {
		for name, results := range callsOfFields(bad, fieldOf("01", "11"), conway(), table) {
			wantNone(t, named(name, bad), results)
		}
		for _, name := range []string{"SameField", "PasteField", "PasteField, on", "CellsApart", "AddHeaps"} {
			wantNone(t, named(name, bad), callsOfFields(fieldOf("01", "11"), bad, conway(), table)[name])
		}
	}
	for _, f := range notPlain() {
		other := f
		if impl.ValidField(f) {
			other = evenField(f.Rows, f.Columns, 1)
		}
		for name, results := range callsOfFields(f, other, conway(), table) {
			if slices.Contains(ofPlain(), name) {
				wantNone(t, named(name, f), results)
			} else if impl.ValidField(f) && name != "SameField" {
				wantBool(t, named(name, f), succeeds(results), true)
			}
		}
	}
	for _, w := range badLives() {
		calls := callsOfFields(fieldOf("11", "10"), fieldOf("01", "11"), w, table)
		for _, name := range ofLives() {
			wantNone(t, named(name, w), calls[name])
		}
	}
}

// Two fields that are the same, but not valid, have nothing in common but this.
func TestTwoBadFields(t *testing.T) {
	for _, bad := range badFields() {
		wantBool(t, named("SameField", bad), impl.SameField(bad, bad), true)
		wantNone(t, "CellsApart", all(impl.CellsApart(bad, bad)))
		wantNone(t, "AddHeaps", all(impl.AddHeaps(bad, bad)))
		wantNone(t, "PasteField", all(impl.PasteField(bad, bad, 0, 0)))
	}
}

// allOfFields calls each function of chapter 4, in order.
func allOfFields(f, p impl.Field, w impl.Life, table []int64) [][]any {
	calls := callsOfFields(f, p, w, table)
	var names []string
	for name := range calls {
		names = append(names, name)
	}
	slices.Sort(names)
	results := [][]any{
		all(impl.ValidLife(w)), all(impl.SameLife(w, w)), all(impl.IsTurnTable(table)), all(impl.BackTable(table)),
		all(impl.NewField(f.Rows, f.Columns)), all(impl.CountThrough(min(f.Rows, 3), min(f.Columns, 3))),
		all(impl.DrawField(f.Rows, f.Columns, 0.5, 77)),
	}
	for _, name := range names {
		results = append(results, calls[name])
	}
	return results
}

// withCells returns a field with other cells.
func withCells(f impl.Field, cells []int64) impl.Field {
	return impl.Field{Rows: f.Rows, Columns: f.Columns, Cells: cells}
}

// Promise 1: equal results for equal arguments, no argument is changed, and
// nothing is shared.
func TestFieldsArePure(t *testing.T) {
	l := &luck{163}
	fields := append(drawnFields(167, 1), drawnFields(173, impl.MaxCell)...)
	lives := append(goodLives(), badLives()...)
	tables := append(drawnTables(), badTables()[:12]...)
	for _, f := range append(fields, notPlain()...) {
		p := l.field(min(max(f.Rows, 1), impl.MaxField), min(max(f.Columns, 1), impl.MaxField), 1)
		w, table := lives[l.below(int64(len(lives)))], tables[l.below(int64(len(tables)))]
		lists := [][]int64{f.Cells, p.Cells, w.Born, w.Stay, table}
		wantPure(t, named("fields", f, p, w, table), lists, func(lists [][]int64) [][]any {
			return allOfFields(withCells(f, lists[0]), withCells(p, lists[1]), impl.Life{Born: lists[2], Stay: lists[3]}, lists[4])
		})
	}
	// Good lives and tables with fields that they fit, which is seldom drawn.
	for i, w := range goodLives() {
		f, p, table := l.field(4, 6, 1), l.field(4, 6, 1), drawnTables()[i%len(drawnTables())]
		wantPure(t, named("fields", f, p, w, table), [][]int64{f.Cells, p.Cells, w.Born, w.Stay, table}, func(lists [][]int64) [][]any {
			return allOfFields(withCells(f, lists[0]), withCells(p, lists[1]), impl.Life{Born: lists[2], Stay: lists[3]}, lists[4])
		})
	}
}

// A part whose cells are in the middle of a longer list is told by them alone.
func TestFieldsInLists(t *testing.T) {
	list := []int64{9, 9, 0, 1, 1, 0, 1, 1, 9, 9}
	f := impl.Field{Rows: 2, Columns: 3, Cells: list[2:8]}
	for _, call := range allOfFields(f, f, conway(), nil) {
		shown(call...)
	}
	wantOnly(t, "StepLife", all(impl.StepLife(conway(), f, false)), nextLife(conway(), f, false))
	if shown(list) != shown([]int64{9, 9, 0, 1, 1, 0, 1, 1, 9, 9}) {
		t.Errorf("the list was changed: %v", list)
	}
}

// cellLists returns the cells of fields.
func cellLists(fields []impl.Field) [][]int64 {
	var lists [][]int64
	for _, f := range fields {
		lists = append(lists, f.Cells)
	}
	return lists
}

func TestFieldsAreApart(t *testing.T) {
	f := fieldOf("0110", "1001")
	for _, steps := range []int64{0, 1, 5} {
		shared, _ := impl.FieldsShared(conway(), many(f, 16), true, steps, 4)
		ran, _ := impl.RunLife(conway(), f, true, steps)
		wantApart(t, cellLists(append(shared, ran)))
	}
	wantField(t, "the field", f, fieldOf("0110", "1001"))
}

// The list of fields has unused capacity, too.
func TestListsOfFieldsAreKept(t *testing.T) {
	list := []impl.Field{fieldOf("010", "111"), fieldOf("1"), fieldOf("11", "01"), fieldOf("0001")}
	want := shown(list)
	for workers := int64(1); workers <= impl.MaxWorkers; workers++ {
		made, ok := impl.FieldsShared(conway(), list[:2], false, 1, workers)
		wantOnly(t, "FieldsShared", all(made, ok), []impl.Field{fieldOf("111", "111"), fieldOf("0")})
		for i := range made[:cap(made)] {
			made[:cap(made)][i] = impl.Field{}
		}
		wantNone(t, "FieldsShared of too many steps", all(impl.FieldsShared(conway(), list[:2], false, impl.MaxRuns+1, workers)))
	}
	if got := shown(list); got != want {
		t.Errorf("the list of fields was changed: got %s, want %s", got, want)
	}
}
