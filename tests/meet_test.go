package tests

import (
	"testing"

	"loop.example/g01381/impl"
)

// meetOf returns what MeetFields does, told by where cells come from.
func meetOf(a, b impl.Field, row, column int64) []any {
	rows, columns := max(a.Rows, row+b.Rows), max(a.Columns, column+b.Columns)
	if row < 0 || column < 0 || rows > impl.MaxField || columns > impl.MaxField {
		return []any{impl.Field{}, false}
	}
	return []any{fieldThat(rows, columns, func(i, k int64) int64 {
		return max(cellAt(a, i, k, false), cellAt(b, i-row, k-column, false))
	}), true}
}

func TestMeetFields(t *testing.T) {
	l := &luck{251}
	fields := []impl.Field{fieldOf("0"), fieldOf("1"), fieldOf("110"), fieldOf("1", "0", "1"), l.field(4, 7, 1), l.field(1, 24, 1), l.field(24, 1, 1), l.field(23, 24, 1), l.field(24, 24, 1)}
	met := 0
	for _, a := range fields {
		for _, b := range fields {
			for row := int64(-2); row <= impl.MaxField+1; row++ {
				for _, column := range []int64{-1, 0, 1, 2, 6, 7, 21, 22, 23, 24, 25} {
					want := meetOf(a, b, row, column)
					wantEach(t, named("MeetFields", a, b, row, column), all(impl.MeetFields(a, b, row, column)), want)
					met += int(oneIf(want[1] == true))
				}
			}
		}
	}
	if met < 1000 {
		t.Errorf("%d fields meet: too few to tell", met)
	}
	one := fieldOf("1")
	wantOnly(t, "one on the other", all(impl.MeetFields(one, one, 0, 0)), one)
	wantOnly(t, "fields that overlap", all(impl.MeetFields(fieldOf("110", "010"), fieldOf("011", "100"), 0, 1)), fieldOf("1111", "0100"))
	wantOnly(t, "fields that are apart", all(impl.MeetFields(fieldOf("11"), fieldOf("1", "1"), 2, 3)), fieldOf("1100", "0000", "0001", "0001"))
	wantOnly(t, "one within the other", all(impl.MeetFields(fieldOf("111", "101", "111"), one, 1, 1)), fieldOf("111", "111", "111"))
	wantOnly(t, "no cells", all(impl.MeetFields(fieldOf("00", "00"), fieldOf("0"), 1, 2)), fieldOf("000", "000"))
	wantOnly(t, "what just fits", all(impl.MeetFields(one, fieldOf("11", "11"), 22, 22)), meetOf(one, fieldOf("11", "11"), 22, 22)[0])
	wantNone(t, "one row too many", all(impl.MeetFields(one, fieldOf("11", "11"), 23, 22)))
	wantNone(t, "one column too many", all(impl.MeetFields(one, fieldOf("11", "11"), 22, 23)))
	wantLimits(t, "MeetFields with a row", 0, 22, func(n int64) []any { return all(impl.MeetFields(one, fieldOf("1", "1"), n, 0)) })
	wantLimits(t, "MeetFields with a column", 0, 21, func(n int64) []any { return all(impl.MeetFields(one, fieldOf("111"), 0, n)) })
	for _, n := range ends() {
		for _, m := range append(ends(), 0, 1) {
			wantNone(t, "MeetFields far", all(impl.MeetFields(one, one, n, m)))
			wantNone(t, "MeetFields far", all(impl.MeetFields(one, one, m, n)))
		}
	}
}

// crashOf returns what CrashOf does, told by its parts.
func crashOf(w impl.Life, a, b impl.Field, row, column, steps int64) []any {
	met := meetOf(a, b, row, column)
	both := met[0].(impl.Field)
	if met[1] == false || steps < 0 || steps > 8 || max(both.Rows, both.Columns)+2*steps > impl.MaxField {
		return []any{[]string{}, []int64{}, false}
	}
	return append(censusOf(runLife(w, grown(both, steps), false, steps)), true)
}

func TestCrashOf(t *testing.T) {
	l := &luck{257}
	crashes := 0
	for range 300 {
		a, b := l.field(1+l.below(7), 1+l.below(7), 1), l.field(1+l.below(7), 1+l.below(7), 1)
		row, column, steps := l.below(9), l.below(9), l.below(10)
		w := l.life()
		if l.below(2) == 0 {
			w = conway()
		}
		want := crashOf(w, a, b, row, column, steps)
		wantEach(t, named("CrashOf", w, a, b, row, column, steps), all(impl.CrashOf(w, a, b, row, column, steps)), want)
		crashes += int(oneIf(want[2] == true))
	}
	if crashes < 100 {
		t.Errorf("%d crashes: too few to tell", crashes)
	}
}

func TestCrashesThatAreKnown(t *testing.T) {
	block, three := fieldOf("11", "11"), fieldOf("111")
	wantAll(t, "two blocks", all(impl.CrashOf(conway(), block, block, 0, 3, 8)), []string{"2,2:2o$2o!"}, []int64{2})
	wantAll(t, "a block and a row of three", all(impl.CrashOf(conway(), block, three, 0, 4, 8)), []string{"1,3:o$o$o!", "2,2:2o$2o!"}, []int64{1, 1})
	wantAll(t, "a row of three behind one step", all(impl.CrashOf(conway(), three, fieldOf("0"), 0, 0, 1)), []string{"1,3:o$o$o!"}, []int64{1})
	wantAll(t, "nothing is left", all(impl.CrashOf(conway(), fieldOf("1"), fieldOf("1"), 0, 1, 1)), []string{}, []int64{})
	// What is born grows into the cells around, and not round to the other side.
	grows := impl.Life{Born: []int64{1, 2, 3}, Stay: []int64{0, 1, 2, 3, 4, 5, 6, 7, 8}}
	wantAll(t, "a cell that grows", all(impl.CrashOf(grows, fieldOf("1"), fieldOf("1"), 0, 0, 8)), []string{nameOf(runLife(grows, grown(fieldOf("1"), 8), false, 8))}, []int64{1})
	wantAll(t, "Born 0", all(impl.CrashOf(impl.Life{Born: []int64{0}}, fieldOf("0"), fieldOf("0"), 0, 0, 1)), []string{"3,3:3o$3o$3o!"}, []int64{1})
	full := largest()
	wantAll(t, "the greatest field, no steps", all(impl.CrashOf(conway(), full, full, 0, 0, 0)), censusOf(full)...)
	wantNone(t, "the greatest field, one step", all(impl.CrashOf(conway(), full, full, 0, 0, 1)))
	wantLimits(t, "CrashOf", 0, 8, func(n int64) []any { return all(impl.CrashOf(conway(), block, three, 1, 1, n)) })
	wantLimits(t, "CrashOf of 8 rows", 0, 8, func(n int64) []any { return all(impl.CrashOf(conway(), block, three, 7, 0, n)) })
	wantLimits(t, "CrashOf of 10 rows", 0, 7, func(n int64) []any { return all(impl.CrashOf(conway(), block, three, 9, 0, n)) })
	for _, n := range ends() {
		wantNone(t, "CrashOf far", all(impl.CrashOf(conway(), block, three, n, 0, 1)))
		wantNone(t, "CrashOf far", all(impl.CrashOf(conway(), block, three, 0, n, 1)))
		wantNone(t, "CrashOf far", all(impl.CrashOf(conway(), block, three, n, n, n)))
	}
}

// largest draws a field of the greatest extent.
func largest() impl.Field { return (&luck{263}).field(impl.MaxField, impl.MaxField, 1) }
