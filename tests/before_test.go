package tests

import (
	"testing"

	"loop.example/g01381/impl"
)

// before is how many fields lead to a field, and the first one of them.
type before struct {
	count int64
	first impl.Field
}

// beforeAll returns for each field of some rows and columns, told by its cells,
// what leads to it by one step, and how many fields are still.
func beforeAll(w impl.Life, rows, columns int64) (map[string]before, int64) {
	told, still := map[string]before{}, int64(0)
	allFields(rows, columns, func(f impl.Field) {
		next := nextLife(w, f, false)
		what := told[textOf(next.Cells)]
		if what.count == 0 {
			what.first = f
		}
		what.count++
		told[textOf(next.Cells)] = what
		still += oneIf(shown(next) == shown(f))
	})
	return told, still
}

// Promise 6: fields that lead to small ones are counted exactly.
func TestWhatIsBefore(t *testing.T) {
	l := &luck{283}
	for rows := int64(1); rows <= 9; rows++ {
		for columns := int64(1); rows*columns <= 9; columns++ {
			for _, w := range []impl.Life{conway(), l.life(), {Born: []int64{0, 1}}} {
				told, still := beforeAll(w, rows, columns)
				wantOnly(t, named("CountStill", w, rows, columns), all(impl.CountStill(w, rows, columns)), still)
				allFields(rows, columns, func(f impl.Field) {
					if rows*columns <= 6 || l.below(8) == 0 {
						wantBefore(t, w, f, told[textOf(f.Cells)])
					}
				})
			}
		}
	}
}

func wantBefore(t *testing.T, w impl.Life, f impl.Field, what before) {
	t.Helper()
	wantOnly(t, named("CountBefore", w, f), all(impl.CountBefore(w, f)), what.count)
	if what.count == 0 {
		wantNone(t, named("FirstBefore", w, f), all(impl.FirstBefore(w, f)))
	} else {
		wantOnly(t, named("FirstBefore", w, f), all(impl.FirstBefore(w, f)), what.first)
	}
}

// As many cells as MaxSmall, and one more.
func TestBeforeLimits(t *testing.T) {
	l := &luck{293}
	for rows := int64(1); rows <= impl.MaxField; rows++ {
		for columns := int64(1); columns <= impl.MaxField; columns++ {
			size := rows * columns
			if size < 10 || size > 30 && l.below(10) > 0 {
				continue
			}
			w, f := conway(), l.field(rows, columns, 1)
			if size > impl.MaxSmall {
				wantNone(t, named("CountBefore", f), all(impl.CountBefore(w, f)))
				wantNone(t, named("FirstBefore", f), all(impl.FirstBefore(w, f)))
				wantNone(t, named("CountStill", rows, columns), all(impl.CountStill(w, rows, columns)))
				continue
			}
			told, still := beforeAll(w, rows, columns)
			wantOnly(t, named("CountStill", rows, columns), all(impl.CountStill(w, rows, columns)), still)
			var sum int64
			for _, what := range told {
				sum += what.count
			}
			if sum != 1<<size {
				t.Fatalf("%d fields of %d cells", sum, size)
			}
			for range 4 {
				next := nextLife(w, l.field(rows, columns, 1), false)
				wantBefore(t, w, next, told[textOf(next.Cells)])
			}
			wantBefore(t, w, f, told[textOf(f.Cells)])
			wantBefore(t, w, evenField(rows, columns, 0), told[textOf(evenField(rows, columns, 0).Cells)])
		}
	}
}

func TestBeforeThatIsKnown(t *testing.T) {
	block, none := fieldOf("11", "11"), fieldOf("00", "00")
	wantOnly(t, "CountBefore of a block", all(impl.CountBefore(conway(), block)), 5)
	wantOnly(t, "FirstBefore of a block", all(impl.FirstBefore(conway(), block)), fieldOf("01", "11"))
	wantOnly(t, "CountBefore of no cells", all(impl.CountBefore(conway(), none)), 11)
	wantOnly(t, "FirstBefore of no cells", all(impl.FirstBefore(conway(), none)), none)
	wantOnly(t, "CountStill of two rows", all(impl.CountStill(conway(), 2, 2)), 2)
	wantOnly(t, "CountBefore of a cell", all(impl.CountBefore(conway(), fieldOf("1"))), 0)
	wantNone(t, "FirstBefore of a cell", all(impl.FirstBefore(conway(), fieldOf("1"))))
	wantOnly(t, "CountBefore of a cell, Born 0", all(impl.CountBefore(impl.Life{Born: []int64{0}}, fieldOf("1"))), 1)
	wantOnly(t, "FirstBefore of a cell, Born 0", all(impl.FirstBefore(impl.Life{Born: []int64{0}}, fieldOf("1"))), fieldOf("0"))
	// It is not round: a row of cells that all stay has no more neighbours.
	wantOnly(t, "CountStill of a row", all(impl.CountStill(impl.Life{Stay: []int64{0, 1, 2, 3, 4, 5, 6, 7, 8}}, 1, 12)), 1<<12)
	wantOnly(t, "CountStill of a column", all(impl.CountStill(impl.Life{}, 12, 1)), 1)
	for rows := int64(-2); rows <= impl.MaxField+2; rows++ {
		for columns := int64(-2); columns <= impl.MaxField+2; columns++ {
			fine := rows >= 1 && columns >= 1 && rows <= impl.MaxField && columns <= impl.MaxField && rows*columns <= impl.MaxSmall
			if _, ok := impl.CountStill(conway(), rows, columns); ok != fine {
				t.Errorf("CountStill of %d and %d: got %v", rows, columns, ok)
			}
		}
	}
	for _, n := range ends() {
		wantNone(t, "CountStill far", all(impl.CountStill(conway(), n, 1)))
		wantNone(t, "CountStill far", all(impl.CountStill(conway(), 1, n)))
		wantNone(t, "CountStill far", all(impl.CountStill(conway(), n, n)))
		wantNone(t, "CountStill far", all(impl.CountStill(conway(), 1<<62, n)))
		wantNone(t, "CountStill far", all(impl.CountStill(conway(), 4, n)))
	}
}
