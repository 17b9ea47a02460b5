package tests

import (
	"slices"
	"strings"
	"testing"

	"loop.example/g01381/impl"
)

// The examples of the document.
func TestExamplesOfWaves(t *testing.T) {
	wantOnly(t, "the row", all(impl.ExciteStep(fieldOf("0100"), 3, 1, false)), fieldOf("1210"))
	wantOnly(t, "the block", all(impl.WindingOf(fieldOf("01", "22"), 3)), []int64{1})
	wantAll(t, "the spirals of the block", all(impl.SpiralsOf(fieldOf("01", "22"), 3)), int64(1), int64(0))
	wantOnly(t, "the ring", all(impl.MajorityOf([]int64{0, 1, 1})), int64(1))
}

func TestExciteStep(t *testing.T) {
	for _, states := range waveStates() {
		for _, f := range drawnWaves(701, states) {
			for bar := int64(1); bar <= 4; bar++ {
				for _, round := range []bool{false, true} {
					what := named("ExciteStep", f, states, bar, round)
					wantOnly(t, what, all(impl.ExciteStep(f, states, bar, round)), wavesAfter(f, states, bar, round))
				}
			}
		}
	}
	// All fields of few cells.
	for _, s := range [][2]int64{{1, 1}, {1, 2}, {2, 1}, {1, 3}, {3, 1}, {2, 2}, {2, 3}} {
		for _, cells := range textsOf(3, s[0]*s[1]) {
			f := impl.Field{Rows: s[0], Columns: s[1], Cells: cellsOf(cells)}
			for bar := int64(1); bar <= 4; bar++ {
				wantOnly(t, named("ExciteStep", f, bar), all(impl.ExciteStep(f, 3, bar, true)), wavesAfter(f, 3, bar, true))
				wantOnly(t, named("ExciteStep, not round", f, bar), all(impl.ExciteStep(f, 3, bar, false)), wavesAfter(f, 3, bar, false))
			}
		}
	}
}

// What is excited is told by hand where the rows and columns go round.
func TestExciteStepByHand(t *testing.T) {
	wantStep := func(what string, f impl.Field, states, bar int64, round bool, want impl.Field) {
		t.Helper()
		wantOnly(t, what, all(impl.ExciteStep(f, states, bar, round)), want)
	}
	// A cell alone has itself as its neighbour, four times.
	for state := range int64(9) {
		for _, round := range []bool{false, true} {
			wantStep("a cell alone", evenField(1, 1, state), 9, 1, round, evenField(1, 1, []int64{0, 2, 3, 4, 5, 6, 7, 8, 0}[state]))
		}
	}
	// Round and round, a neighbour in a row of two is one twice.
	wantStep("a row of two", fieldOf("01"), 3, 2, true, fieldOf("12"))
	wantStep("a row of two", fieldOf("01"), 3, 3, true, fieldOf("02"))
	wantStep("a row of two", fieldOf("01"), 3, 1, false, fieldOf("12"))
	wantStep("a row of two", fieldOf("01"), 3, 2, false, fieldOf("02"))
	wantStep("a column of two", fieldOf("1", "0"), 3, 2, true, fieldOf("2", "1"))
	wantStep("a column of two", fieldOf("1", "0"), 3, 2, false, fieldOf("2", "0"))
	wantStep("a block of two", fieldOf("01", "10"), 3, 4, true, fieldOf("12", "21"))
	wantStep("a block of two", fieldOf("01", "10"), 3, 2, false, fieldOf("12", "21"))
	wantStep("a block of two", fieldOf("01", "10"), 3, 3, false, fieldOf("02", "20"))
	// Only 1 excites, and only 0 is excited.
	wantStep("other states", fieldOf("02034050"), 6, 1, true, fieldOf("03045000"))
	wantStep("from the other end", fieldOf("0001"), 4, 1, true, fieldOf("1012"))
	wantStep("not from the other end", fieldOf("0001"), 4, 1, false, fieldOf("0012"))
	wantStep("across corners", fieldOf("010", "101", "010"), 3, 4, false, fieldOf("020", "212", "020"))
	wantStep("across corners", fieldOf("101", "000", "101"), 3, 1, false, fieldOf("212", "101", "212"))
	// Each of the four neighbours counts once.
	for _, near := range textsOf(2, 4) {
		f := fieldOf("0"+near[:1]+"0", near[1:2]+"0"+near[2:3], "0"+near[3:]+"0")
		for bar := int64(1); bar <= 4; bar++ {
			next := must(t)(impl.ExciteStep(f, 9, bar, false))
			wantBool(t, named("the middle", near, bar), next.Cells[4] == 1, int64(strings.Count(near, "1")) >= bar)
		}
	}
}

func TestWavesThatFail(t *testing.T) {
	for _, round := range []bool{false, true} {
		for _, states := range waveStates() {
			for _, f := range badWaves(states) {
				wantNone(t, named("ExciteStep", f, states), all(impl.ExciteStep(f, states, 1, round)))
				wantNone(t, named("ExciteRun", f, states), all(impl.ExciteRun(f, states, 1, round, 0)))
				wantNone(t, named("WindingOf", f, states), all(impl.WindingOf(f, states)))
				wantNone(t, named("SpiralsOf", f, states), all(impl.SpiralsOf(f, states)))
				wantNone(t, named("PhasesOf", f, states), all(impl.PhasesOf(f, states)))
			}
			// The greatest cell is states - 1.
			f := evenField(3, 4, states-1)
			wantOnly(t, named("ExciteStep", f, states), all(impl.ExciteStep(f, states, 1, round)), evenField(3, 4, 0))
		}
		for _, f := range []impl.Field{evenField(2, 2, 0), fieldOf("12", "01")} {
			wantLimits(t, "ExciteStep with states", 3, impl.MaxCell, func(n int64) []any { return all(impl.ExciteStep(f, n, 1, round)) })
			wantLimits(t, "ExciteStep with a bar", 1, 4, func(n int64) []any { return all(impl.ExciteStep(f, 3, n, round)) })
			wantLimits(t, "ExciteRun with states", 3, impl.MaxCell, func(n int64) []any { return all(impl.ExciteRun(f, n, 1, round, 2)) })
			wantLimits(t, "ExciteRun with a bar", 1, 4, func(n int64) []any { return all(impl.ExciteRun(f, 3, n, round, 0)) })
			wantLimits(t, "ExciteRun with steps", 0, impl.MaxRuns, func(n int64) []any { return all(impl.ExciteRun(f, 3, 2, round, n)) })
			wantLimits(t, "WindingOf with states", 3, impl.MaxCell, func(n int64) []any { return all(impl.WindingOf(f, n)) })
			wantLimits(t, "SpiralsOf with states", 3, impl.MaxCell, func(n int64) []any { return all(impl.SpiralsOf(f, n)) })
			wantLimits(t, "PhasesOf with states", 3, impl.MaxCell, func(n int64) []any { return all(impl.PhasesOf(f, n)) })
		}
	}
}

func TestExciteRun(t *testing.T) {
	for _, states := range waveStates() {
		for i, f := range drawnWaves(709, states) {
			bar, round, want := int64(1+i%4), i%3 > 0, f
			for steps := range int64(6) {
				wantOnly(t, named("ExciteRun", f, states, bar, round, steps), all(impl.ExciteRun(f, states, bar, round, steps)), want)
				want = wavesAfter(want, states, bar, round)
			}
		}
	}
	// A spiral goes on for as many steps as there can be.
	f := evenField(9, 9, 0)
	copy(f.Cells[27:], cellsOf("111100000222200000"))
	want := f
	for range impl.MaxRuns {
		want = wavesAfter(want, 3, 1, true)
	}
	wantOnly(t, "ExciteRun of most steps", all(impl.ExciteRun(f, 3, 1, true, impl.MaxRuns)), want)
	wantNone(t, "ExciteRun of one more", all(impl.ExciteRun(f, 3, 1, true, impl.MaxRuns+1)))
}

func TestWindingOf(t *testing.T) {
	for _, states := range waveStates() {
		for _, f := range drawnWaves(719, states) {
			got := all(impl.WindingOf(f, states))
			spirals := all(impl.SpiralsOf(f, states))
			if f.Rows < 2 || f.Columns < 2 {
				wantNone(t, named("WindingOf", f, states), got)
				wantNone(t, named("SpiralsOf", f, states), spirals)
				continue
			}
			want := windingsOf(f, states)
			wantOnly(t, named("WindingOf", f, states), got, want)
			wantAll(t, named("SpiralsOf", f, states), spirals, countThat(want, func(n int64) bool { return n > 0 }), countThat(want, func(n int64) bool { return n < 0 }))
		}
	}
	// All blocks of all states.
	for _, states := range waveStates() {
		for _, cells := range textsOf(states, 4) {
			f := impl.Field{Rows: 2, Columns: 2, Cells: cellsOf(cells)}
			wantOnly(t, named("WindingOf", f, states), all(impl.WindingOf(f, states)), windingsOf(f, states))
		}
	}
}

// countThat returns how many numbers of a list are as asked.
func countThat(list []int64, is func(n int64) bool) int64 {
	return int64(len(slices.DeleteFunc(slices.Clone(list), func(n int64) bool { return !is(n) })))
}

func TestWindingByHand(t *testing.T) {
	wantWinding := func(what string, f impl.Field, states int64, want ...int64) {
		t.Helper()
		wantOnly(t, what, all(impl.WindingOf(f, states)), want)
	}
	wantWinding("to the right", fieldOf("01", "22"), 3, 1)
	wantWinding("to the left", fieldOf("02", "11"), 3, -1)
	wantWinding("the same states of 4", fieldOf("01", "22"), 4, 0)
	wantWinding("around, of 4", fieldOf("01", "32"), 4, 1)
	wantWinding("back, of 4", fieldOf("03", "12"), 4, -1)
	wantWinding("around, of 9", fieldOf("02", "75"), 9, 1)
	// Ways of just half of the states stay as they are: forward, and back.
	wantWinding("half around, of 4", fieldOf("02", "20"), 4, 0)
	wantWinding("half around, of 4", fieldOf("20", "02"), 4, 0)
	wantWinding("one half forward", fieldOf("02", "33"), 4, 1)
	wantWinding("one half back", fieldOf("20", "11"), 4, 0)
	wantWinding("one half back", fieldOf("20", "33"), 4, -1)
	wantWinding("one half forward, of 6", fieldOf("03", "55"), 6, 1)
	wantWinding("one half back, of 6", fieldOf("30", "55"), 6, -1)
	wantWinding("one half forward, of 8", fieldOf("15", "77"), 8, 1)
	wantWinding("one half back, of 8", fieldOf("51", "77"), 8, -1)
	// Ways that are just less and just greater than half, of odd numbers.
	wantWinding("less than half, of 5", fieldOf("02", "44"), 5, 1)
	wantWinding("greater than half, of 5", fieldOf("03", "44"), 5, 0)
	wantWinding("greater than half, of 5", fieldOf("03", "11"), 5, -1)
	wantWinding("less than half, of 9", fieldOf("04", "88"), 9, 1)
	wantWinding("greater than half, of 9", fieldOf("05", "88"), 9, 0)
	wantWinding("greater than half, of 9", fieldOf("05", "22"), 9, -1)
	wantWinding("greater than half back, of 3", fieldOf("20", "11"), 3, 1)
	// Each block is told, row by row, and none goes over the border.
	wantWinding("four blocks", fieldOf("012", "220", "110"), 3, 1, 0, 0, 1)
	wantWinding("the second of four blocks", fieldOf("001", "022", "000"), 3, 0, 1, 0, 0)
	wantWinding("the third of four blocks", fieldOf("000", "020", "120"), 3, 0, 0, -1, 0)
	wantWinding("a row of blocks", fieldOf("0120", "2200"), 3, 1, 0, 0)
	wantWinding("a column of blocks", fieldOf("02", "11", "20"), 3, -1, -1)
	wantAll(t, "SpiralsOf four blocks", all(impl.SpiralsOf(fieldOf("012", "220", "110"), 3)), int64(2), int64(0))
	wantAll(t, "SpiralsOf a row of blocks", all(impl.SpiralsOf(fieldOf("0120", "2200"), 3)), int64(1), int64(0))
	wantAll(t, "SpiralsOf a column of blocks", all(impl.SpiralsOf(fieldOf("02", "11", "20"), 3)), int64(0), int64(2))
	wantAll(t, "SpiralsOf what is even", all(impl.SpiralsOf(evenField(24, 24, 2), 3)), int64(0), int64(0))
	for _, f := range []impl.Field{fieldOf("0"), fieldOf("012"), fieldOf("0", "1", "2"), evenField(1, impl.MaxField, 1), evenField(impl.MaxField, 1, 1)} {
		wantNone(t, named("WindingOf", f), all(impl.WindingOf(f, 3)))
		wantNone(t, named("SpiralsOf", f), all(impl.SpiralsOf(f, 3)))
	}
}

// Promise 8: windings of states are those of their phases. Where a way is just
// half of the states, phases do not show to which side it goes.
func TestWindingsOfStatesAndPhases(t *testing.T) {
	turning := 0
	for _, states := range waveStates() {
		fields := drawnWaves(727, states)
		for _, cells := range textsOf(min(states, 6), 4) {
			fields = append(fields, impl.Field{Rows: 2, Columns: 2, Cells: cellsOf(cells)})
		}
		for _, f := range fields {
			if f.Rows < 2 || f.Columns < 2 || hasHalfWays(f, states) {
				continue
			}
			phases, ok := impl.PhasesOf(f, states)
			wantBool(t, named("PhasesOf", f, states), ok, true)
			want, _ := impl.WindingOf(f, states)
			wantOnly(t, named("WindingOfPhases", f, states), all(impl.WindingOfPhases(phases)), want)
			turning += int(countThat(want, func(n int64) bool { return n != 0 }))
		}
	}
	if turning < 1000 {
		t.Errorf("only %d blocks turn", turning)
	}
}

// Waves that are shifted, and waves that are turned, take the same steps.
func TestWavesAreAlike(t *testing.T) {
	for _, states := range []int64{3, 6, 9} {
		for i, f := range drawnWaves(733, states) {
			bar := int64(1 + i%3)
			step := func(f impl.Field) impl.Field { return must(t)(impl.ExciteRun(f, states, bar, true, 3)) }
			wantField(t, named("shifted waves", f), step(shiftOf(f, 2, -1)), shiftOf(step(f), 2, -1))
			for name, image := range images(t) {
				wantField(t, named(name+" waves", f), step(image(f)), image(step(f)))
				wantField(t, named(name+" waves, not round", f), must(t)(impl.ExciteRun(image(f), states, bar, false, 2)), image(must(t)(impl.ExciteRun(f, states, bar, false, 2))))
			}
		}
	}
}
