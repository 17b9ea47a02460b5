package tests

import (
	"maps"
	"slices"
	"testing"

	"loop.example/g01381/impl"
)

// callsOfPatterns calls each function of chapter 5 that takes a field, with it
// and with another one.
func callsOfPatterns(f, p impl.Field, w impl.Life) map[string][]any {
	return map[string][]any{
		"WriteRuns":          all(impl.WriteRuns(f)),
		"TrimField":          all(impl.TrimField(f)),
		"GrowField":          all(impl.GrowField(f, 1)),
		"GrowField, 0":       all(impl.GrowField(f, 0)),
		"NameOf":             all(impl.NameOf(f)),
		"SameShape":          all(impl.SameShape(f, p)),
		"SameShape, second":  all(impl.SameShape(p, f)),
		"ImagesOfField":      all(impl.ImagesOfField(f)),
		"PartsOf":            all(impl.PartsOf(f)),
		"CensusOf":           all(impl.CensusOf(f)),
		"CountsAhead":        all(impl.CountsAhead(w, f, false, 2)),
		"CountsAhead, 0":     all(impl.CountsAhead(w, f, true, 0)),
		"FateOf":             all(impl.FateOf(w, f, 9)),
		"ShipOf":             all(impl.ShipOf(w, f, 3)),
		"MeetFields":         all(impl.MeetFields(f, p, 0, 1)),
		"MeetFields, second": all(impl.MeetFields(p, f, 1, 0)),
		"CrashOf":            all(impl.CrashOf(w, f, p, 0, 1, 1)),
		"CrashOf, second":    all(impl.CrashOf(w, p, f, 0, 1, 0)),
		"InnerStep":          all(impl.InnerStep(w, f)),
		"InnerLife":          all(impl.InnerLife(w, f)),
		"QuarterKinds":       all(impl.QuarterKinds(f)),
		"QuarterTree":        all(impl.QuarterTree(f)),
		"CountBefore":        all(impl.CountBefore(w, f)),
		"FirstBefore":        all(impl.FirstBefore(w, f)),
	}
}

// ofLivePatterns are the functions of chapter 5 that take a life and a field.
func ofLivePatterns() []string {
	return []string{
		"CountsAhead", "CountsAhead, 0", "FateOf", "ShipOf", "CrashOf", "CrashOf, second",
		"InnerStep", "InnerLife", "CountBefore", "FirstBefore",
	}
}

// stays returns the life by which all fields stay as they are.
func stays() impl.Life { return impl.Life{Stay: []int64{0, 1, 2, 3, 4, 5, 6, 7, 8}} }

// Each function succeeds with some field that it fits, and fails with all that
// are not plain, or not valid, and with lives that are not valid.
func TestPatternsThatFail(t *testing.T) {
	fine := map[string]bool{}
	for _, f := range []impl.Field{fieldOf("011", "010"), fieldOf("0000", "0110", "0100", "0000")} {
		for name, results := range callsOfPatterns(f, fieldOf("01", "11"), stays()) {
			fine[name] = fine[name] || succeeds(results)
		}
	}
	for name, ok := range fine {
		wantBool(t, name+" of fields that it fits", ok, true)
	}
	for _, bad := range notPlain() {
		for _, p := range []impl.Field{fieldOf("01", "11"), fieldOf("0"), bad} {
			for name, results := range callsOfPatterns(bad, p, stays()) {
				wantNone(t, named(name, bad), results)
			}
		}
	}
	for _, side := range []int64{4, 8, 16} {
		for _, state := range []int64{-1, 2, impl.MaxCell, impl.MaxCell + 1, 1<<63 - 1} {
			f := chess(side, side)
			f.Cells[len(f.Cells)-1] = state
			for name, results := range callsOfPatterns(f, fieldOf("1"), stays()) {
				wantNone(t, named(name, f), results)
			}
		}
	}
	for _, w := range badLives() {
		for _, f := range []impl.Field{fieldOf("011", "010"), fieldOf("0000", "0110", "0100", "0000")} {
			calls := callsOfPatterns(f, fieldOf("01", "11"), w)
			for _, name := range ofLivePatterns() {
				wantNone(t, named(name, w), calls[name])
			}
		}
		wantNone(t, named("CountStill", w), all(impl.CountStill(w, 2, 2)))
		wantNone(t, named("SoupOf", w), all(impl.SoupOf(w, 3, 0.5, 7, 1)))
		wantNone(t, named("SoupOf without steps", w), all(impl.SoupOf(w, 3, 0.5, 7, 0)))
		wantNone(t, named("CrashOf without steps", w), all(impl.CrashOf(w, fieldOf("1"), fieldOf("1"), 0, 0, 0)))
	}
}

// allOfPatterns calls each function of chapter 5, in order.
func allOfPatterns(f, p impl.Field, w impl.Life, tree, seeds []int64) [][]any {
	calls := callsOfPatterns(f, p, w)
	text, _ := impl.WriteRuns(f)
	results := [][]any{
		all(impl.ReadRuns(text)), all(impl.FieldOfTree(tree)),
		all(impl.CountStill(w, min(f.Rows, 3), min(f.Columns, 3))), all(impl.SoupOf(w, min(f.Rows, 5), 0.5, 7, 2)),
		all(impl.SoupsShared(w, min(f.Rows, 5), 0.5, seeds, 2, 3)), all(impl.SoupsShared(w, 2, 0.5, seeds, 0, 1)),
	}
	for _, name := range slices.Sorted(maps.Keys(calls)) {
		results = append(results, calls[name])
	}
	return results
}

// Promise 1: equal results for equal arguments, no argument is changed, and
// nothing is shared.
func TestPatternsArePure(t *testing.T) {
	l := &luck{307}
	lives := append(append(goodLives(), goodLives()...), badLives()[:5]...)
	fields := append(slices.Concat(patterns(), squares(), notPlain()), fieldOf("011", "010"), fieldOf("0110", "0100", "1100"))
	for i, f := range fields {
		w, p := lives[l.below(int64(len(lives)))], l.field(1+l.below(4), 1+l.below(4), 1)
		tree, seeds := treeOf(squares()[i%len(squares())]), l.states(l.below(18), 1<<31)
		if i%3 == 0 {
			tree[l.below(int64(len(tree)))]++
		}
		wantPure(t, named("patterns", f, p, w, tree, seeds), [][]int64{f.Cells, p.Cells, w.Born, w.Stay, tree, seeds}, func(lists [][]int64) [][]any {
			return allOfPatterns(withCells(f, lists[0]), withCells(p, lists[1]), impl.Life{Born: lists[2], Stay: lists[3]}, lists[4], lists[5])
		})
	}
}

// A part whose cells are in the middle of a longer list is told by them alone.
func TestPatternsInLists(t *testing.T) {
	list := append(append(many(int64(9), 5), fieldOf("0100", "0010", "1110", "0000").Cells...), many(int64(9), 5)...)
	want := shown(list)
	f := impl.Field{Rows: 4, Columns: 4, Cells: list[5:21]}
	allOfPatterns(f, f, conway(), list[5:21], list[:10])
	wantOnly(t, "WriteRuns", all(impl.WriteRuns(f)), "4,4:bo$2bo$3o$!")
	wantOnly(t, "QuarterTree", all(impl.QuarterTree(f)), treeOf(f))
	if shown(list) != want {
		t.Errorf("the list was changed: %v", list)
	}
}

// No two lists of one result share memory.
func TestPatternsAreApart(t *testing.T) {
	f := fieldOf("01101", "00001", "11000", "00011", "10000")
	list, _ := impl.ImagesOfField(f)
	wantApart(t, cellLists(list))
	parts, places, _ := impl.PartsOf(f)
	wantApart(t, append(cellLists(parts), places))
	alike, _, _ := impl.PartsOf(fieldOf("10101", "00000", "10101"))
	wantApart(t, cellLists(alike))
	wantField(t, "the field", f, fieldOf("01101", "00001", "11000", "00011", "10000"))
	// What is written to a name list of one call is not in that of the next one.
	names, counts, _ := impl.CensusOf(f)
	want := shown(names, counts)
	for i := range names[:cap(names)] {
		names[:cap(names)][i] = "gone"
	}
	again, counts, _ := impl.CensusOf(f)
	if shown(again, counts) != want {
		t.Errorf("CensusOf of %v: got %v, %v, want %s", f, again, counts, want)
	}
}
