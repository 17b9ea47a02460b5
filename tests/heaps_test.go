package tests

import (
	"slices"
	"testing"

	"loop.example/g01381/impl"
)

// near returns the places of the four neighbours of a place that are within a
// field.
func near(f impl.Field, at int) []int {
	row, column := int64(at)/f.Columns, int64(at)%f.Columns
	var places []int
	for i := range f.Rows {
		for k := range f.Columns {
			if (i-row)*(i-row)+(k-column)*(k-column) == 1 {
				places = append(places, int(i*f.Columns+k))
			}
		}
	}
	return places
}

// settled returns what becomes of heaps, and how often they fall, told by the
// document's words, but for which of the heavy cells falls: the one that pick
// returns, to which all cells are told, too.
func settled(f impl.Field, pick func(cells []int64, places []int) int) (impl.Field, int64) {
	f.Cells = slices.Clone(f.Cells)
	for count := int64(0); ; count++ {
		var places []int
		for at, x := range f.Cells {
			if x >= 4 {
				places = append(places, at)
			}
		}
		if len(places) == 0 {
			return f, count
		}
		at := pick(f.Cells, places)
		f.Cells[at] -= 4
		for _, i := range near(f, at) {
			f.Cells[i]++
		}
	}
}

// smallFields returns drawn fields of at most 49 cells.
func smallFields(seed uint64, most int64) []impl.Field {
	return slices.DeleteFunc(drawnFields(seed, most), func(f impl.Field) bool { return f.Rows*f.Columns > 49 })
}

func firstOf(cells []int64, places []int) int { return places[0] }

func TestSettleHeap(t *testing.T) {
	for _, f := range append(smallFields(79, impl.MaxCell), smallFields(83, 4)...) {
		want, count := settled(f, firstOf)
		wantAll(t, named("SettleHeap", f), all(impl.SettleHeap(f)), want, count)
		wantAll(t, "SettleHeap again", all(impl.SettleHeap(want)), want, 0)
	}
	wantAll(t, "SettleHeap of 9", all(impl.SettleHeap(fieldOf("9"))), fieldOf("1"), 2)
	wantAll(t, "SettleHeap of 3", all(impl.SettleHeap(fieldOf("3"))), fieldOf("3"), 0)
	wantAll(t, "SettleHeap of 5 and 0", all(impl.SettleHeap(fieldOf("50"))), fieldOf("11"), 1)
	wantAll(t, "SettleHeap of 4 in the middle", all(impl.SettleHeap(fieldOf("000", "040", "000"))), fieldOf("010", "101", "010"), 1)
	wantAll(t, "SettleHeap of 4 and 3", all(impl.SettleHeap(fieldOf("43"))), fieldOf("10"), 2)
	wantAll(t, "SettleHeap upwards", all(impl.SettleHeap(fieldOf("3", "3", "4"))), fieldOf("0", "1", "1"), 3)
}

// The order in which heaps fall changes nothing.
func TestHeapsInAnyOrder(t *testing.T) {
	l := &luck{89}
	for _, f := range smallFields(97, impl.MaxCell) {
		want, count := settled(f, func(cells []int64, places []int) int { return places[l.below(int64(len(places)))] })
		wantAll(t, named("SettleHeap", f), all(impl.SettleHeap(f)), want, count)
		last, count := settled(f, func(cells []int64, places []int) int { return places[len(places)-1] })
		wantAll(t, named("SettleHeap", f), all(impl.SettleHeap(f)), last, count)
	}
}

// The greatest heaps, in which cells become greater than MaxCell on the way.
func TestGreatHeaps(t *testing.T) {
	for _, s := range [][2]int64{{impl.MaxField, impl.MaxField}, {1, impl.MaxField}, {impl.MaxField, 1}, {3, 3}, {2, 2}} {
		f, greatest := evenField(s[0], s[1], impl.MaxCell), int64(0)
		want, count := settled(f, func(cells []int64, places []int) int {
			greatest = max(greatest, slices.Max(cells))
			return places[0]
		})
		wantAll(t, named("SettleHeap", f), all(impl.SettleHeap(f)), want, count)
		wantOnly(t, "AddHeaps of the greatest", all(impl.AddHeaps(f, f)), must(t)(impl.AddHeaps(want, want)))
		if greatest <= impl.MaxCell || slices.Max(want.Cells) > 3 {
			t.Errorf("%v: the cells came to %d, and then to %v", f, greatest, want)
		}
	}
}

// sumOfFields returns the sums of cells, which can be no field.
func sumOfFields(a, b impl.Field) impl.Field {
	return fieldThat(a.Rows, a.Columns, func(i, k int64) int64 { return a.Cells[i*a.Columns+k] + b.Cells[i*a.Columns+k] })
}

func TestAddHeaps(t *testing.T) {
	l := &luck{101}
	for _, a := range smallFields(103, impl.MaxCell) {
		b, c := l.field(a.Rows, a.Columns, impl.MaxCell), l.field(a.Rows, a.Columns, impl.MaxCell)
		want, _ := settled(sumOfFields(a, b), firstOf)
		sum := must(t)(impl.AddHeaps(a, b))
		wantField(t, named("AddHeaps", a, b), sum, want)
		wantOnly(t, "AddHeaps, exchanged", all(impl.AddHeaps(b, a)), want)
		wantOnly(t, "AddHeaps of three", all(impl.AddHeaps(sum, c)), must(t)(impl.AddHeaps(a, must(t)(impl.AddHeaps(b, c)))))
		zero := evenField(a.Rows, a.Columns, 0)
		alone, _, _ := impl.SettleHeap(a)
		wantOnly(t, "AddHeaps of nothing", all(impl.AddHeaps(a, zero)), alone)
		wantOnly(t, "AddHeaps to nothing", all(impl.AddHeaps(zero, a)), alone)
	}
	wantOnly(t, "AddHeaps of 9 and 9", all(impl.AddHeaps(fieldOf("9"), fieldOf("9"))), fieldOf("2"))
	for _, a := range drawnFields(107, 3) {
		for _, b := range [][2]int64{{a.Rows, a.Columns + 1}, {a.Rows + 1, a.Columns}, {a.Columns, a.Rows}} {
			other := evenField(b[0], b[1], 1)
			if b != [2]int64{a.Rows, a.Columns} {
				wantNone(t, "AddHeaps of other extents", all(impl.AddHeaps(a, other)))
				wantNone(t, "AddHeaps of other extents", all(impl.AddHeaps(other, a)))
			}
		}
	}
}

// fireStep returns the field in which a fire has spread, told by the document's
// words.
func fireStep(f impl.Field) impl.Field {
	next := impl.Field{Rows: f.Rows, Columns: f.Columns, Cells: slices.Clone(f.Cells)}
	for at, x := range f.Cells {
		if x == 1 && slices.ContainsFunc(near(f, at), func(i int) bool { return f.Cells[i] == 2 }) {
			next.Cells[at] = 2
		}
		if x == 2 {
			next.Cells[at] = 0
		}
	}
	return next
}

func TestFireStep(t *testing.T) {
	fields := append(drawnFields(109, 2), drawnFields(113, impl.MaxCell)...)
	for _, f := range fields {
		wantOnly(t, named("FireStep", f), all(impl.FireStep(f)), fireStep(f))
		now, count := f, int64(0)
		for slices.Contains(now.Cells, 2) {
			now, count = fireStep(now), count+1
		}
		wantAll(t, named("BurnAll", f), all(impl.BurnAll(f)), now, count)
	}
	wantOnly(t, "a fire in the corner", all(impl.FireStep(fieldOf("2111", "1111", "1112"))), fieldOf("0211", "2112", "1120"))
	wantOnly(t, "a fire does not go round", all(impl.FireStep(fieldOf("2001", "0000", "1001"))), fieldOf("0001", "0000", "1001"))
	wantOnly(t, "a fire does not go across corners", all(impl.FireStep(fieldOf("201", "010", "103"))), fieldOf("001", "010", "103"))
	wantOnly(t, "what is greater than 2 does not burn", all(impl.FireStep(fieldOf("23", "45"))), fieldOf("03", "45"))
}

func TestBurnAll(t *testing.T) {
	wantAll(t, "one cell that burns", all(impl.BurnAll(fieldOf("2"))), fieldOf("0"), 1)
	for _, f := range []impl.Field{fieldOf("1"), fieldOf("0"), fieldOf("3111", "0909"), evenField(impl.MaxField, impl.MaxField, 1)} {
		wantAll(t, "without a 2", all(impl.BurnAll(f)), f, 0)
		wantOnly(t, "without a 2", all(impl.FireStep(f)), f)
	}
	wantAll(t, "without a 1", all(impl.BurnAll(fieldOf("2022", "0302"))), fieldOf("0000", "0300"), 1)
	long := evenField(1, impl.MaxField, 1)
	long.Cells[0] = 2
	wantAll(t, "a long row", all(impl.BurnAll(long)), evenField(1, impl.MaxField, 0), impl.MaxField)
	// A way through the field that goes to and fro.
	winding := fieldThat(impl.MaxField, impl.MaxField, func(i, k int64) int64 {
		return oneIf(i%2 == 0 || i%4 == 1 && k == impl.MaxField-1 || i%4 == 3 && k == 0)
	})
	winding.Cells[0] = 2
	wantAll(t, "a winding way", all(impl.BurnAll(winding)), evenField(impl.MaxField, impl.MaxField, 0), 12*impl.MaxField+12)
}

// A fire burns just the clusters that touch it.
func TestFiresBurnClusters(t *testing.T) {
	for _, f := range append(drawnFields(127, 2), drawnFields(131, 4)...) {
		numbers, _, _ := impl.ClustersOf(f)
		touched := map[int64]bool{}
		for at, x := range f.Cells {
			if x == 2 {
				for _, i := range near(f, at) {
					touched[numbers[i]] = true
				}
			}
		}
		want := impl.Field{Rows: f.Rows, Columns: f.Columns}
		for at, x := range f.Cells {
			if x == 2 || x == 1 && touched[numbers[at]] {
				x = 0
			}
			want.Cells = append(want.Cells, x)
		}
		burnt, _, _ := impl.BurnAll(f)
		wantField(t, named("BurnAll", f), burnt, want)
	}
}
