package tests

import (
	"slices"
	"testing"

	"loop.example/g01381/impl"
)

// onesIn returns how many cells are 1.
func onesIn(f impl.Field) int64 { return sumOf(f.Cells) }

func TestCountsAhead(t *testing.T) {
	l := &luck{233}
	for _, f := range patterns() {
		w := l.life()
		for _, round := range []bool{false, true} {
			var want []int64
			for now, steps := f, int64(0); steps < 4; steps++ {
				want = append(want, onesIn(now))
				wantOnly(t, named("CountsAhead", w, f, round, steps), all(impl.CountsAhead(w, f, round, steps)), want)
				now = nextLife(w, now, round)
			}
		}
	}
	for _, round := range []bool{false, true} {
		f, want := l.field(12, 9, 1), []int64{}
		for now := f; len(want) <= impl.MaxRuns; now = nextLife(conway(), now, round) {
			want = append(want, onesIn(now))
		}
		wantOnly(t, "CountsAhead of MaxRuns", all(impl.CountsAhead(conway(), f, round, impl.MaxRuns)), want)
		wantLimits(t, "CountsAhead", 0, impl.MaxRuns, func(n int64) []any { return all(impl.CountsAhead(conway(), fieldOf("010", "111"), round, n)) })
	}
	wantOnly(t, "a row of three", all(impl.CountsAhead(conway(), fieldOf("111"), false, 3)), []int64{3, 1, 0, 0})
	wantOnly(t, "a row of three, round", all(impl.CountsAhead(conway(), fieldOf("111"), true, 2)), []int64{3, 0, 0})
	wantOnly(t, "one cell, Born 0", all(impl.CountsAhead(impl.Life{Born: []int64{0}}, fieldOf("1"), false, 3)), []int64{1, 0, 1, 0})
}

// fateOf returns what FateOf does, told by all fields that have come.
func fateOf(w impl.Life, f impl.Field, most int) []any {
	var came []string
	for step := 0; step <= most; step++ {
		if begin := slices.Index(came, shown(f)); begin >= 0 {
			return []any{begin, step - begin, true}
		}
		came = append(came, shown(f))
		f = nextLife(w, f, true)
	}
	return []any{0, 0, false}
}

func TestFateOf(t *testing.T) {
	l := &luck{239}
	ends := 0
	for _, f := range patterns() {
		for _, w := range []impl.Life{conway(), l.life(), l.life()} {
			fate := fateOf(w, f, 40)
			wantEach(t, named("FateOf", w, f), all(impl.FateOf(w, f, 40)), fate)
			if fate[2] != true {
				continue
			}
			// The limit is for b + p together.
			ends++
			sum := int64(fate[0].(int) + fate[1].(int))
			wantAll(t, named("FateOf just", w, f), all(impl.FateOf(w, f, sum)), fate[:2]...)
			if sum > 1 {
				wantNone(t, named("FateOf with one less", w, f), all(impl.FateOf(w, f, sum-1)))
			}
		}
	}
	if ends < 100 {
		t.Errorf("%d fields come again: too few to tell", ends)
	}
}

func TestFatesThatAreKnown(t *testing.T) {
	wantAll(t, "one cell", all(impl.FateOf(conway(), fieldOf("0000", "0100", "0000", "0000"), impl.MaxRuns)), 1, 1)
	wantAll(t, "no cells", all(impl.FateOf(conway(), evenField(24, 24, 0), 1)), 0, 1)
	wantAll(t, "a block", all(impl.FateOf(conway(), fieldOf("0000", "0110", "0110", "0000"), 1)), 0, 1)
	wantAll(t, "a row of three", all(impl.FateOf(conway(), fieldOf("00000", "00000", "01110", "00000", "00000"), 2)), 0, 2)
	wantNone(t, "a row of three, too few steps", all(impl.FateOf(conway(), fieldOf("00000", "00000", "01110", "00000", "00000"), 1)))
	wantAll(t, "a cell, Born 0", all(impl.FateOf(impl.Life{Born: []int64{0}}, fieldOf("1"), 2)), 0, 2)
	for side := int64(6); side <= impl.MaxField; side++ {
		wantAll(t, "a glider", all(impl.FateOf(conway(), gliderOn(side, 2, side-2), 4*side)), 0, 4*side)
		wantNone(t, "a glider, too few steps", all(impl.FateOf(conway(), gliderOn(side, 2, side-2), 4*side-1)))
	}
	wantLimits(t, "FateOf", 1, impl.MaxRuns, func(n int64) []any { return all(impl.FateOf(conway(), fieldOf("00", "00"), n)) })
}

// In a row, each cell becomes the sum of the cells beside it by this life. With 19
// cells, 1 and 511 make just MaxRuns; with 23, there are 1 and 2047.
func TestLongFates(t *testing.T) {
	adds := impl.Life{Born: []int64{3}, Stay: []int64{5}}
	row := fieldOf("1000000000000000000")
	wantAll(t, "a row", all(impl.FateOf(adds, row, impl.MaxRuns)), fateOf(adds, row, impl.MaxRuns)[:2]...)
	wantAll(t, "a row", all(impl.FateOf(adds, row, impl.MaxRuns)), 1, 511)
	wantNone(t, "a row with a step less", all(impl.FateOf(adds, row, impl.MaxRuns-1)))
	behind := nextLife(adds, row, true)
	wantAll(t, "what comes behind it", all(impl.FateOf(adds, behind, impl.MaxRuns)), 0, 511)
	wantAll(t, "what comes behind it, just", all(impl.FateOf(adds, behind, 511)), 0, 511)
	wantNone(t, "what comes behind it, with a step less", all(impl.FateOf(adds, behind, 510)))
	wantNone(t, "a longer row", all(impl.FateOf(adds, fieldOf("10000000000000000000000"), impl.MaxRuns)))
}

// onSea returns a field of MaxField rows and columns with a pattern in it.
func onSea(f impl.Field) impl.Field {
	return partOf(f, -((impl.MaxField - f.Rows) / 2), -((impl.MaxField - f.Columns) / 2), impl.MaxField, impl.MaxField)
}

// atBorder reports whether a cell on the border of a field is 1.
func atBorder(f impl.Field) bool {
	return hasOnes(f, 0, 0, 1, f.Columns) || hasOnes(f, f.Rows-1, 0, 1, f.Columns) ||
		hasOnes(f, 0, 0, f.Rows, 1) || hasOnes(f, 0, f.Columns-1, f.Rows, 1)
}

// shipOf returns what ShipOf does, told by the document's words.
func shipOf(w impl.Life, f impl.Field, most int64) []any {
	none := []any{0, 0, 0, false}
	if !slices.Contains(f.Cells, 1) {
		return none
	}
	now := onSea(f)
	ship, row, column := trimOf(now)
	for step := int64(0); step <= most; step++ {
		if atBorder(now) {
			return none
		}
		if onesIn(now) > 0 && step > 0 {
			if part, i, k := trimOf(now); shown(part) == shown(ship) {
				return []any{step, i - row, k - column, true}
			}
		}
		now = nextLife(w, now, false)
	}
	return none
}

func TestShipOf(t *testing.T) {
	l := &luck{241}
	ships := 0
	for i, f := range patterns() {
		for _, w := range []impl.Life{conway(), l.life(), goodLives()[i%len(goodLives())]} {
			want := shipOf(w, f, 6)
			wantEach(t, named("ShipOf", w, f), all(impl.ShipOf(w, f, 6)), want)
			ships += int(oneIf(want[3] == true))
		}
	}
	// Small patterns, and lives by which few cells are born, live longer.
	for range 400 {
		f, w := l.field(1+l.below(6), 1+l.below(6), 1), l.life()
		w.Born = slices.DeleteFunc(w.Born, func(n int64) bool { return n < 2 })
		want := shipOf(w, f, 12)
		wantEach(t, named("ShipOf", w, f), all(impl.ShipOf(w, f, 12)), want)
		ships += int(oneIf(want[3] == true))
	}
	if ships < 80 {
		t.Errorf("%d patterns come again: too few to tell", ships)
	}
}

func TestShipsThatAreKnown(t *testing.T) {
	glider := fieldOf("010", "001", "111")
	// They move as they are turned: right and down, left and down, and so on.
	for i, way := range [][2]int64{{1, 1}, {1, -1}, {-1, -1}, {-1, 1}, {1, -1}, {-1, -1}, {-1, 1}, {1, 1}} {
		ship := eightImages(glider)[i]
		wantAll(t, "a glider", all(impl.ShipOf(conway(), ship, 4)), 4, way[0], way[1])
		wantAll(t, "a glider with more steps", all(impl.ShipOf(conway(), ship, 64)), 4, way[0], way[1])
		wantNone(t, "a glider with fewer steps", all(impl.ShipOf(conway(), ship, 3)))
	}
	fast := fieldOf("10010", "00001", "10001", "01111")
	wantAll(t, "a fast ship", all(impl.ShipOf(conway(), fast, 64)), 4, 0, 2)
	wantAll(t, "a block", all(impl.ShipOf(conway(), fieldOf("11", "11"), 1)), 1, 0, 0)
	wantAll(t, "a row of three", all(impl.ShipOf(conway(), fieldOf("111"), 2)), 2, 0, 0)
	wantNone(t, "a row of three, behind one step", all(impl.ShipOf(conway(), fieldOf("111"), 1)))
	wantAll(t, "a row of three in a wide field", all(impl.ShipOf(conway(), fieldOf("00000", "00000", "00111"), 64)), 2, 0, 0)
	wantNone(t, "no cells", all(impl.ShipOf(conway(), fieldOf("000", "000"), 64)))
	wantNone(t, "no cells, Born 0", all(impl.ShipOf(impl.Life{Born: []int64{0}}, fieldOf("0"), 64)))
	wantNone(t, "what dies", all(impl.ShipOf(conway(), fieldOf("11"), 64)))
	wantNone(t, "what dies, and is born again, Born 0", all(impl.ShipOf(impl.Life{Born: []int64{0}}, evenField(22, 22, 1), 64)))
	wantNone(t, "one cell, Born 0", all(impl.ShipOf(impl.Life{Born: []int64{0}, Stay: []int64{0}}, fieldOf("1"), 64)))
	wantAll(t, "a full field, Born 0", all(impl.ShipOf(impl.Life{Born: []int64{0}, Stay: []int64{3, 5, 8}}, evenField(22, 22, 1), 1)), 1, 0, 0)
	wantLimits(t, "ShipOf", 1, 64, func(n int64) []any { return all(impl.ShipOf(conway(), fieldOf("11", "11"), n)) })
}

// The least number of steps is told if it is just the limit, and its limit.
func TestLongShips(t *testing.T) {
	w := impl.Life{Born: []int64{4}, Stay: []int64{0, 1, 2, 3, 5, 6}}
	f := fieldOf("1011", "0111", "1011", "1001")
	wantEach(t, "64 steps", shipOf(w, f, 64), []any{64, 0, 0, true})
	wantAll(t, "64 steps", all(impl.ShipOf(w, f, 64)), 64, 0, 0)
	wantNone(t, "64 steps with one less", all(impl.ShipOf(w, f, 63)))
	w = impl.Life{Born: []int64{5, 7}, Stay: []int64{0, 1, 2, 3, 4, 5, 7}}
	f = fieldOf("1111111", "1011000", "1111110", "1111101", "1111111")
	wantEach(t, "65 steps", shipOf(w, f, 65), []any{65, 0, 0, true})
	wantNone(t, "65 steps", all(impl.ShipOf(w, f, 64)))
	moves := impl.Life{Born: []int64{3, 4, 8}, Stay: []int64{1, 4, 5, 6}}
	wantAll(t, "46 steps, two rows up", all(impl.ShipOf(moves, fieldOf("0010", "0001", "0111", "0111"), 64)), 46, -2, 0)
}

// at returns a field of some rows and columns with a pattern at a place.
func at(f impl.Field, row, column, rows, columns int64) impl.Field {
	return partOf(f, -row, -column, rows, columns)
}

// A cell on the border makes ShipOf fail from the first field on, up to the one
// that is told, but not behind it.
func TestShipsAtTheBorder(t *testing.T) {
	const last = impl.MaxField - 1
	block, three, glider := fieldOf("11", "11"), fieldOf("111"), fieldOf("010", "001", "111")
	for place := int64(0); place <= last-1; place++ {
		for _, row := range []int64{place, 9} {
			column := place + 9 - row
			got := all(impl.ShipOf(conway(), at(block, row, column, 24, 24), 1))
			if place == 0 || place == last-1 {
				wantNone(t, named("a block on the border", row, column), got)
			} else {
				wantAll(t, named("a block", row, column), got, 1, 0, 0)
			}
		}
	}
	// What is higher than wide, or wider than high, has its own last places.
	for place := int64(0); place <= last-2; place++ {
		wide := fieldOf("0110", "1001", "0110")
		for _, still := range eightImages(wide)[:2] {
			for _, there := range [][2]int64{{place, 9}, {9, place}} {
				if there[0]+still.Rows > impl.MaxField || there[1]+still.Columns > impl.MaxField {
					continue
				}
				f := at(still, there[0], there[1], 24, 24)
				got := all(impl.ShipOf(conway(), f, 1))
				if place == 0 || there[0]+still.Rows == impl.MaxField || there[1]+still.Columns == impl.MaxField {
					wantNone(t, named("a still field on the border", still, there), got)
				} else {
					wantAll(t, named("a still field", still, there), got, 1, 0, 0)
				}
			}
		}
	}
	for row := int64(0); row <= last; row++ {
		// It is a column behind one step, which has a row more on both sides.
		got := all(impl.ShipOf(conway(), at(three, row, 9, 24, 24), 64))
		if row < 2 || row > last-2 {
			wantNone(t, named("a row of three near the border", row), got)
		} else {
			wantAll(t, named("a row of three", row), got, 2, 0, 0)
		}
	}
	for row := int64(0); row <= last-2; row++ {
		// It is one row on behind four steps, and not above its first row before.
		got := all(impl.ShipOf(conway(), at(glider, row, 9, 24, 24), 64))
		if row == 0 || row+3 >= last {
			wantNone(t, named("a glider near the border", row), got)
		} else {
			wantAll(t, named("a glider", row), got, 4, 1, 1)
		}
	}
	// The place is half of what is left, rounded down: with 23 rows, the first one
	// is on the border, and the last one is not.
	wantNone(t, "a block in the first of 23 rows", all(impl.ShipOf(conway(), at(block, 0, 0, 23, 2), 1)))
	wantAll(t, "a block in the last of 23 rows", all(impl.ShipOf(conway(), at(block, 21, 0, 23, 2), 1)), 1, 0, 0)
	wantNone(t, "a block in the first of 23 columns", all(impl.ShipOf(conway(), at(block, 0, 0, 2, 23), 1)))
	wantAll(t, "a block in the last of 23 columns", all(impl.ShipOf(conway(), at(block, 0, 21, 2, 23), 1)), 1, 0, 0)
	wantAll(t, "a block in the first of 22 rows", all(impl.ShipOf(conway(), at(block, 0, 0, 22, 22), 1)), 1, 0, 0)
}
