package tests

import (
	"math"
	"reflect"
	"slices"
	"strconv"
	"strings"
	"testing"

	"loop.example/g01381/impl"
)

// stepsOfWays returns for each way the rows down and the columns to the right.
func stepsOfWays(ways int64) [][2]int64 {
	const up, down, left, right = -1, 1, -1, 1
	if ways == 4 {
		return [][2]int64{{up, 0}, {0, right}, {down, 0}, {0, left}}
	}
	return [][2]int64{{0, right}, {up, right}, {up, 0}, {0, left}, {down, left}, {down, 0}}
}

// oppositeWays has a digit for the opposite of each way.
func oppositeWays(ways int64) string {
	if ways == 4 {
		return "2301"
	}
	return "345012"
}

// meetingsOf tells what becomes of the ways of particles that meet.
func meetingsOf(ways int64, left bool) map[string]string {
	switch {
	case ways == 4:
		return map[string]string{"02": "13", "13": "02"}
	case left:
		return map[string]string{"03": "14", "14": "25", "25": "03", "024": "135", "135": "024"}
	}
	return map[string]string{"03": "25", "14": "03", "25": "14", "024": "135", "135": "024"}
}

// waysIn returns a digit for the way of each particle of a cell.
func waysIn(cell int64) string {
	var ways strings.Builder
	for way := 0; cell > 0; way, cell = way+1, cell/2 {
		if cell%2 == 1 {
			ways.WriteString(strconv.Itoa(way))
		}
	}
	return ways.String()
}

// cellWith returns the cell with particles that go some ways.
func cellWith(ways string) int64 {
	var cell int64
	for i := range ways {
		cell += toThe(2, digitAt(ways, i))
	}
	return cell
}

// cellReversed returns a cell whose particles go the opposite ways.
func cellReversed(cell, ways int64) int64 {
	var next string
	for _, way := range waysIn(cell) {
		next += oppositeWays(ways)[way-'0' : way-'0'+1]
	}
	return cellWith(next)
}

// gasThat returns a gas with other cells, told by those before.
func gasThat(g impl.Gas, tell func(at int, cell int64) int64) impl.Gas {
	cells := slices.Clone(g.Cells)
	for at, cell := range cells {
		cells[at] = tell(at, cell)
	}
	return withGasCells(g, cells)
}

// withGasCells returns a gas with other cells.
func withGasCells(g impl.Gas, cells []int64) impl.Gas {
	return impl.Gas{Ways: g.Ways, Rows: g.Rows, Columns: g.Columns, Cells: cells, Walls: g.Walls}
}

// collideOf returns the gas behind collisions, told by the ways in cells.
func collideOf(g impl.Gas, left bool) impl.Gas {
	return gasThat(g, func(at int, cell int64) int64 {
		if g.Walls[at] {
			return cellReversed(cell, g.Ways)
		}
		if next, ok := meetingsOf(g.Ways, left)[waysIn(cell)]; ok {
			return cellWith(next)
		}
		return cell
	})
}

// reverseOf returns the gas whose particles go the opposite ways.
func reverseOf(g impl.Gas) impl.Gas {
	return gasThat(g, func(at int, cell int64) int64 { return cellReversed(cell, g.Ways) })
}

// streamOf returns the gas whose particles have gone on, told by where those that
// are in a cell then came from.
func streamOf(g impl.Gas) impl.Gas {
	return gasThat(g, func(at int, _ int64) int64 {
		var next int64
		for way, by := range stepsOfWays(g.Ways) {
			row, column := around(int64(at)/g.Columns-by[0], g.Rows), around(int64(at)%g.Columns-by[1], g.Columns)
			next += g.Cells[row*g.Columns+column] & toThe(2, int64(way))
		}
		return next
	})
}

// runGas returns the gas behind steps.
func runGas(g impl.Gas, steps int64) impl.Gas {
	for step := range steps {
		g = streamOf(collideOf(g, step%2 == 0))
	}
	return g
}

// countOf returns how many particles there are.
func countOf(g impl.Gas) int64 {
	var count int
	for _, cell := range g.Cells {
		count += len(waysIn(cell))
	}
	return int64(count)
}

// wayOf returns the rows down and the columns to the right of all particles.
func wayOf(g impl.Gas) (int64, int64) {
	var down, right int64
	for _, cell := range g.Cells {
		for _, way := range waysIn(cell) {
			down += stepsOfWays(g.Ways)[way-'0'][0]
			right += stepsOfWays(g.Ways)[way-'0'][1]
		}
	}
	return down, right
}

// sides are rows and columns at which gases and flows are likely to be wrong.
func sides() [][2]int64 {
	const most = impl.MaxSide
	return [][2]int64{
		{1, 1}, {1, 2}, {2, 1}, {2, 2}, {1, 3}, {3, 1}, {2, 3}, {3, 2}, {3, 3}, {4, 6}, {5, 4},
		{1, most}, {most, 1}, {2, most}, {most, 3}, {most - 1, most}, {most, most},
	}
}

// walls draws walls for some cells: none, some, those of the border, or all.
func (l *luck) walls(rows, columns, kind int64) []bool {
	walls := make([]bool, rows*columns)
	for at := range walls {
		row, column := int64(at)/columns, int64(at)%columns
		onBorder := row == 0 || row == rows-1 || column == 0 || column == columns-1
		walls[at] = kind == 1 && l.below(3) == 0 || kind == 2 && onBorder || kind == 3
	}
	return walls
}

// wallKinds is how many kinds of walls there are.
const wallKinds = 4

// gas draws a gas, of which one of some cells has particles that meet.
func (l *luck) gas(ways, rows, columns, kind int64) impl.Gas {
	cells := l.states(rows*columns, toThe(2, ways))
	for at := range cells {
		if l.below(3) == 0 {
			cells[at] = cellWith([]string{"02", "13", "02", "13", "", "03", "14", "25", "024", "135"}[ways/6*5+l.below(5)])
		}
	}
	return impl.Gas{Ways: ways, Rows: rows, Columns: columns, Cells: cells, Walls: l.walls(rows, columns, kind)}
}

// evenGas returns a gas without walls that has equal cells.
func evenGas(ways, rows, columns, cell int64) impl.Gas {
	return impl.Gas{Ways: ways, Rows: rows, Columns: columns, Cells: many(cell, int(rows*columns)), Walls: make([]bool, rows*columns)}
}

// drawnGases returns gases of 4 and 6 ways with all sides and kinds of walls.
func drawnGases(seed uint64) []impl.Gas {
	l := &luck{seed}
	var gases []impl.Gas
	for _, ways := range []int64{4, 6} {
		for _, s := range sides() {
			gases = append(gases, evenGas(ways, s[0], s[1], 0), evenGas(ways, s[0], s[1], toThe(2, ways)-1))
			for kind := range int64(wallKinds) {
				gases = append(gases, l.gas(ways, s[0], s[1], kind))
			}
		}
	}
	return gases
}

// badGases returns gases that are not valid.
func badGases() []impl.Gas {
	const end = 1<<63 - 1
	gases := []impl.Gas{
		{}, {Ways: 4}, {Ways: 6, Cells: []int64{}, Walls: []bool{}}, {Ways: 4, Rows: 1, Columns: 1},
		{Ways: 4, Rows: 1, Columns: 1, Cells: []int64{0}}, {Ways: 4, Rows: 1, Columns: 1, Walls: []bool{false}},
		{Ways: 4, Rows: 1, Columns: 1, Cells: []int64{0, 0}, Walls: []bool{false}},
		{Ways: 4, Rows: 1, Columns: 1, Cells: []int64{0}, Walls: []bool{false, false}},
		{Ways: 6, Rows: 1, Columns: 1, Cells: []int64{0, 0}, Walls: []bool{true, true}},
		{Ways: 4, Rows: 2, Columns: 2, Cells: []int64{0, 1, 2}, Walls: make([]bool, 4)},
		{Ways: 4, Rows: 2, Columns: 2, Cells: []int64{0, 1, 2, 3}, Walls: make([]bool, 3)},
		{Ways: 6, Rows: 2, Columns: 2, Cells: []int64{0, 1, 2, 3, 4}, Walls: make([]bool, 5)},
		{Ways: 4, Rows: end, Columns: end, Cells: []int64{0}, Walls: []bool{false}},
		{Ways: 4, Rows: -end - 1, Columns: -end - 1}, {Ways: 6, Rows: 1 << 32, Columns: 1 << 32},
		{Ways: 4, Rows: 1 << 62, Columns: 4}, {Ways: 6, Rows: 2, Columns: end}, {Ways: 4, Rows: -end - 1, Columns: 2},
		evenGas(4, 1, 1, 16), evenGas(4, 2, 2, -1), evenGas(6, 1, 1, 64), evenGas(6, 2, 2, -1), evenGas(4, 1, 1, 32),
		evenGas(4, 1, 1, end), evenGas(4, 1, 1, -end-1), evenGas(6, 1, 1, end), evenGas(6, 1, 1, -end-1),
		evenGas(4, impl.MaxSide+1, 1, 0), evenGas(4, 1, impl.MaxSide+1, 0), evenGas(6, impl.MaxSide+1, impl.MaxSide+1, 0),
		evenGas(6, impl.MaxSide, impl.MaxSide+1, 0), evenGas(6, impl.MaxSide+1, impl.MaxSide, 0),
		{Ways: 4, Rows: 0, Columns: 1, Cells: []int64{0}, Walls: []bool{false}},
		{Ways: 4, Rows: 1, Columns: 0, Cells: []int64{0}, Walls: []bool{false}},
		{Ways: 6, Rows: -1, Columns: -1, Cells: []int64{0}, Walls: []bool{false}},
		{Ways: 6, Rows: -2, Columns: -2, Cells: make([]int64, 4), Walls: make([]bool, 4)},
	}
	for _, ways := range append(ends(), 0, 1, 2, 3, 5, 7, 8, 10, 16, 64, 68, -4, -6, 4+1<<32) {
		gases = append(gases, evenGas(ways, 1, 1, 0), evenGas(ways, 2, 2, 1))
	}
	for _, ways := range []int64{4, 6} {
		last := evenGas(ways, impl.MaxSide, impl.MaxSide, toThe(2, ways)-1)
		last.Cells[len(last.Cells)-1]++
		gases = append(gases, last)
	}
	return gases
}

// span is a part of memory.
type span struct{ from, end uintptr }

// spansOf returns the memory of all lists in a value, with unused capacity.
func spansOf(value reflect.Value) []span {
	var spans []span
	switch value.Kind() {
	case reflect.Slice:
		if value.Cap() > 0 {
			spans = append(spans, span{value.Pointer(), value.Pointer() + uintptr(value.Cap())*value.Type().Elem().Size()})
		}
		for i := range value.Len() {
			spans = append(spans, spansOf(value.Index(i))...)
		}
	case reflect.Struct:
		for i := range value.NumField() {
			spans = append(spans, spansOf(value.Field(i))...)
		}
	case reflect.Interface:
		spans = append(spans, spansOf(value.Elem())...)
	}
	return spans
}

// wantOwnMemory checks that no two lists in the results of a call share memory,
// nor one in them and one in its arguments.
func wantOwnMemory(t *testing.T, what string, arguments, results []any) {
	t.Helper()
	given, made := spansOf(reflect.ValueOf(arguments)), spansOf(reflect.ValueOf(results))
	for i, a := range made {
		for _, b := range append(made[:i:i], given...) {
			if a.from < b.end && b.from < a.end {
				t.Errorf("%s: a list in the results shares memory", what)
			}
		}
	}
}

// roomed returns a value whose lists are copies with unused capacity, and a
// report whether these are as they were.
func roomed[T any](value T) (T, func() bool) {
	var kept []func() bool
	var copied func(value reflect.Value) reflect.Value
	copied = func(value reflect.Value) reflect.Value {
		next := reflect.New(value.Type()).Elem()
		next.Set(value)
		switch value.Kind() {
		case reflect.Slice:
			room := reflect.MakeSlice(value.Type(), 0, value.Len()+3)
			for i := range value.Len() {
				room = reflect.Append(room, copied(value.Index(i)))
			}
			whole := room.Slice(0, value.Len()+3)
			before := shownBits(whole)
			kept = append(kept, func() bool { return shownBits(whole) == before })
			next.Set(room)
		case reflect.Struct:
			for i := range value.NumField() {
				next.Field(i).Set(copied(value.Field(i)))
			}
		}
		return next
	}
	room := copied(reflect.ValueOf(value)).Interface().(T)
	return room, func() bool {
		return !slices.ContainsFunc(kept, func(is func() bool) bool { return !is() })
	}
}

// shownBits tells a list so that all bits of its numbers are seen.
func shownBits(list reflect.Value) string {
	var bits []uint32
	switch numbers := list.Interface().(type) {
	case []float32:
		for _, x := range numbers {
			bits = append(bits, math.Float32bits(x))
		}
	case []complex64:
		for _, z := range numbers {
			bits = append(bits, math.Float32bits(real(z)), math.Float32bits(imag(z)))
		}
	default:
		return shown(list.Interface())
	}
	return shown(bits)
}

// wantPureOf checks calls that take an argument: they return the same for equal
// ones, change none of its lists, nor their unused capacity, and no list of a
// call shares memory with another one, or with the argument.
func wantPureOf[T any](t *testing.T, what string, argument T, calls func(argument T) [][]any) {
	t.Helper()
	want := shownCalls(calls(argument))
	room, kept := roomed(argument)
	again := calls(room)
	if got := shownCalls(again); got != want {
		t.Errorf("%s: got %s and then %s", what, want, got)
	}
	if !kept() {
		t.Errorf("%s: an argument was changed", what)
	}
	for _, results := range again {
		wantOwnMemory(t, what, []any{room}, results)
	}
}
