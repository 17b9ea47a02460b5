package tests

import (
	"math"
	"slices"
	"testing"

	"loop.example/g01381/impl"
)

// wantPhases checks a call of a function that makes phases: it succeeds with those
// that are told by another way, or fails as it does.
func wantPhases(t *testing.T, what string, results []any, want impl.Phases, ok bool) {
	t.Helper()
	if !ok {
		wantNone(t, what, results)
		return
	}
	got := results[0].(impl.Phases)
	if results[1] != true || got.Rows != want.Rows || got.Columns != want.Columns || !sameComplexList(got.Cells, want.Cells) {
		t.Errorf("%s: got %v, want %v, true", what, results, want)
	}
	wantBool(t, what+" is valid", impl.ValidPhases(got), true)
}

func TestValidPhases(t *testing.T) {
	for _, p := range drawnPhases(739) {
		wantBool(t, named("ValidPhases", p), impl.ValidPhases(p), true)
	}
	for _, p := range badPhases() {
		wantBool(t, named("ValidPhases", p), impl.ValidPhases(p), false)
	}
	for _, x := range seldom() {
		for at := range 6 {
			p := phasesThat(2, 3, func(at int) complex64 { return 1 })
			p.Cells[at] = complex(x, 0)
			wantBool(t, named("ValidPhases", p), impl.ValidPhases(p), isFinite(x))
			p.Cells[at] = complex(0, x)
			wantBool(t, named("ValidPhases", p), impl.ValidPhases(p), isFinite(x))
		}
	}
	for rows := int64(-1); rows < 27; rows++ {
		for columns := int64(-1); columns < 27; columns++ {
			p := impl.Phases{Rows: rows, Columns: columns, Cells: make([]complex64, max(rows*columns, 0))}
			wantBool(t, named("ValidPhases of sides", rows, columns), impl.ValidPhases(p), rows >= 1 && rows <= 24 && columns >= 1 && columns <= 24)
		}
	}
}

func TestSamePhases(t *testing.T) {
	phases := append(badPhases(), drawnPhases(743)[:30]...)
	texts := make([]string, len(phases))
	for i, p := range phases {
		texts[i] = shown(p.Rows, p.Columns, p.Cells)
	}
	for i, a := range phases {
		for k, b := range phases {
			wantBool(t, named("SamePhases", a, b), impl.SamePhases(a, b), texts[i] == texts[k])
		}
	}
	// All not-a-numbers are one value, and zeros have signs.
	for _, x := range append(seldom(), num(0xffc00000)) {
		for _, y := range append(seldom(), num(0xffc00000)) {
			wantBool(t, named("SamePhases of real parts", x, y), impl.SamePhases(rowOfPhases(1, complex(x, 0)), rowOfPhases(1, complex(y, 0))), bitsOf(x) == bitsOf(y))
			wantBool(t, named("SamePhases of imaginary parts", x, y), impl.SamePhases(rowOfPhases(complex(0, x), 1), rowOfPhases(complex(0, y), 1)), bitsOf(x) == bitsOf(y))
		}
	}
	wantBool(t, "SamePhases of nil and of empty lists", impl.SamePhases(impl.Phases{Rows: 7, Columns: -7}, impl.Phases{Rows: 7, Columns: -7, Cells: []complex64{}}), true)
	wantBool(t, "SamePhases of other sides", impl.SamePhases(phasesThat(2, 3, func(int) complex64 { return 1 }), phasesThat(3, 2, func(int) complex64 { return 1 })), false)
}

func TestPhasesOf(t *testing.T) {
	for _, states := range waveStates() {
		for _, f := range drawnWaves(751, states) {
			got, ok := impl.PhasesOf(f, states)
			want := phasesThat(f.Rows, f.Columns, func(at int) complex64 {
				a, b := phasor(float64(f.Cells[at]) / float64(states))
				return cnum(narrow(a), narrow(b))
			})
			wantPhases(t, named("PhasesOf", f, states), all(got, ok), want, true)
			// Phases lead back to states.
			wantOnly(t, named("StatesOf PhasesOf", f, states), all(impl.StatesOf(got, states)), f)
		}
		for state := range states {
			p, _ := impl.PhasesOf(evenField(1, 1, state), states)
			wantOnly(t, named("StatesOf the phase of", state, states), all(impl.StatesOf(p, states)), evenField(1, 1, state))
		}
	}
	quarters, ok := impl.PhasesOf(fieldOf("0123"), 4)
	wantPhases(t, "PhasesOf quarters", all(quarters, ok), rowOfPhases(1, complex(0, 1), -1, complex(0, -1)), true)
}

// statesOf returns the states of phases, told by the document's words.
func statesOf(p impl.Phases, states int64) impl.Field {
	return fieldThat(p.Rows, p.Columns, func(row, column int64) int64 {
		turns := angleOf(p.Cells[row*p.Columns+column])
		if turns < 0 {
			turns = plus(turns, 1)
		}
		state := int64(math.Floor(float64(plus(times(float32(states), turns), 0.5))))
		if state == states {
			return 0
		}
		return state
	})
}

func TestStatesOf(t *testing.T) {
	phases := append(drawnPhases(757), phasesThat(24, 24, func(at int) complex64 {
		angle := 2 * math.Pi * float64(at) / 576
		return complex(float32(math.Cos(angle)), float32(math.Sin(angle)))
	}))
	for _, p := range phases {
		for _, states := range waveStates() {
			wantOnly(t, named("StatesOf", p, states), all(impl.StatesOf(p, states)), statesOf(p, states))
		}
	}
	p := rowOfPhases(1, complex(0, 1))
	wantLimits(t, "StatesOf", 3, impl.MaxCell, func(n int64) []any { return all(impl.StatesOf(p, n)) })
	for _, p := range badPhases() {
		wantNone(t, named("StatesOf", p), all(impl.StatesOf(p, 3)))
	}
}

// Where a state becomes the next one, each bit of a phase counts.
func TestStatesWhereTheyChange(t *testing.T) {
	nudged := func(x float64, by int) float32 { return num(bitsOf(float32(x)) + uint32(by)) }
	changes, places := 0, 0
	for _, states := range waveStates() {
		for state := range states {
			turns := 2 * math.Pi * (float64(state) + 0.5) / float64(states)
			for _, long := range []float64{1, 0.3, 70} {
				p := phasesThat(24, 24, func(at int) complex64 {
					return complex(nudged(long*math.Cos(turns), at/24-12), nudged(long*math.Sin(turns), at%24-12))
				})
				got := must(t)(impl.StatesOf(p, states))
				wantField(t, named("StatesOf", p, states), got, statesOf(p, states))
				changes += boolNumber(slices.Contains(got.Cells, state) && slices.Contains(got.Cells, (state+1)%states))
				places++
			}
		}
	}
	if 2*changes < places {
		t.Errorf("states change in %d of %d places", changes, places)
	}
}

// boolNumber returns 1 if something is so.
func boolNumber(is bool) int {
	if is {
		return 1
	}
	return 0
}

func TestStatesByHand(t *testing.T) {
	const tiny, minus = 0x1p-140, minusZero
	wantStates := func(states int64, want string, cells ...complex64) {
		t.Helper()
		wantOnly(t, named("StatesOf", states, cells), all(impl.StatesOf(rowOfPhases(cells...), states)), fieldOf(want))
	}
	// Zeros have the angle 0, whatever signs they have, and -1 that of half a turn.
	wantStates(9, "0000", 0, cnum(minus, 0), cnum(0, minus), cnum(minus, minus))
	wantStates(4, "0022", 1, cnum(0x3f800000, minus), -1, cnum(0xbf800000, minus))
	// Of angles that are an eighth of a turn, the product with 4, plus 0.5, is an
	// integer, which is 4 for the last one.
	wantStates(4, "1230", complex(1, 1), complex(-1, 1), complex(-1, -1), complex(1, -1))
	wantStates(8, "1357", complex(1, 1), complex(-1, 1), complex(-1, -1), complex(1, -1))
	// Half a turn has the product 1.5 with 3, 2.5 with 5, and so on.
	wantStates(3, "2", -1)
	wantStates(5, "3", -1)
	wantStates(7, "4", -1)
	wantStates(9, "5", -1)
	wantStates(6, "33", -1, complex(-1, -tiny))
	// Angles that are a little less than 0 become 1, and states become 0.
	for _, states := range waveStates() {
		wantStates(states, "0000", complex(1, -1e-30), complex(1, -1e-8), complex(1, -0.01), complex(1, num(leastNumber|minus)))
		wantStates(states, "0000", complex(1, 1e-30), complex(1, 1e-8), complex(1, 0.01), complex(1, num(leastNumber)))
	}
	// Only the angle counts, and not how long a phase is.
	wantStates(4, "1111", complex(0, 1), complex(0, 3e38), complex(0, num(leastNumber)), complex(tiny, 1))
	wantStates(4, "3333", complex(0, -1), complex(0, -3e38), complex(0, num(leastNumber|minus)), complex(-tiny, -1))
	wantStates(3, "120", complex(-0.5, 0.8660254), complex(-0.5, -0.8660254), 7)
}

// flowNumbers are what FlowPhases is told: by, turn and near.
func flowNumbers() [][3]float32 {
	numbers := [][3]float32{
		{0, 0, 0}, {0.1, 0.5, 0.2}, {-0.1, -0.5, -0.2}, {0.3, 0, 0}, {0, 0.7, 0}, {0, 0, 0.4}, {1, 1, 1}, {-1, 2, 0.25},
		{num(minusZero), num(minusZero), num(minusZero)}, {0, num(minusZero), 1}, {num(leastNumber), 1, -1}, {1, num(mostBelow), 1},
		{1e30, 1, 1}, {1, 1e30, 1}, {1, 1, 1e30}, {num(mostNumber), 0, 0}, {0, num(mostNumber), 0}, {0, 0, num(mostNumber)}, {0.01, -3e38, 0.1},
	}
	l := &luck{761}
	for range 6 {
		numbers = append(numbers, [3]float32{l.share() - 0.5, l.share() - 0.5, l.share() - 0.5})
	}
	return numbers
}

func TestFlowPhases(t *testing.T) {
	failed, fine := 0, 0
	for _, p := range drawnPhases(769) {
		for _, n := range flowNumbers() {
			want, ok := flowOfPhases(p, n[0], n[1], n[2])
			wantPhases(t, named("FlowPhases", p, n), all(impl.FlowPhases(p, n[0], n[1], n[2])), want, ok)
			fine += boolNumber(ok)
			failed += boolNumber(!ok)
		}
	}
	if failed < 100 || fine < 1000 {
		t.Errorf("FlowPhases failed %d times, and succeeded %d times", failed, fine)
	}
}

func TestFlowPhasesByHand(t *testing.T) {
	wantFlow := func(what string, p impl.Phases, by, turn, near float32, want ...complex64) {
		t.Helper()
		wantPhases(t, what, all(impl.FlowPhases(p, by, turn, near)), impl.Phases{Rows: p.Rows, Columns: p.Columns, Cells: want}, true)
	}
	// A phase of the power 1 stays, and others come nearer to it.
	wantFlow("the power 1", rowOfPhases(1), 0.5, 0, 0, 1)
	wantFlow("the power 4", rowOfPhases(2), 0.125, 0, 0, 2-0.75)
	wantFlow("the power 1/4", rowOfPhases(complex(0, 0.5)), 0.5, 0, 0, complex(0, 0.5+0.1875))
	// It is turned against its imaginary part: by (0 - turn p) i.
	wantFlow("a turn", rowOfPhases(1), 0.5, 1, 0, complex(1, -0.5))
	wantFlow("a turn back", rowOfPhases(1), 0.5, -1, 0, complex(1, 0.5))
	wantFlow("a turn by the power", rowOfPhases(2), 0.5, 0.25, 0, complex(2-3, -1))
	// Neighbours count within the field alone.
	wantFlow("a phase alone", rowOfPhases(1), 0, 0, 1, 1)
	wantFlow("two phases", rowOfPhases(1, 3), 0, 0, 0.5, 2, 2)
	wantFlow("three phases", rowOfPhases(complex(0, 4), 0, 1), 0, 0, 0.25, complex(0, 3), complex(0.25, 1), 0.75)
	wantFlow("a column", impl.Phases{Rows: 3, Columns: 1, Cells: []complex64{complex(0, 4), 0, 1}}, 0, 0, 0.25, complex(0, 3), complex(0.25, 1), 0.75)
	nine := phasesThat(3, 3, func(at int) complex64 { return []complex64{1, 2, 4, 8, 16, 32, 64, 128, 256}[at] })
	wantFlow("nine phases", nine, 0, 0, 1, 1+1+7, 2+14-1+2, 4+28-2, 8+56-7+8, 16+112-14-8+16, 32+224-28-16, 64-56+64, 128-112-64+128, 256-224-128)
	// Above, below, to the left and to the right, in this order: here, each other
	// one makes another sum.
	cross := func(above, below, left, right complex64) impl.Phases {
		p := phasesThat(3, 3, func(int) complex64 { return 0 })
		p.Cells[1], p.Cells[7], p.Cells[3], p.Cells[5] = above, below, left, right
		return p
	}
	for i, sides := range [][4]complex64{{0x1p24, 1, -0x1p24, 1}, {0x1p24, 1, 1, -0x1p24}, {0x1p24, -0x1p24, 1, 1}, {1, 0x1p24, 1, -0x1p24}, {1, 1, 0x1p24, -0x1p24}, {1, 0x1p24, -0x1p24, 1}, {0x1p24, 1, -0x1p24, complex(0, 1)}} {
		want := []complex64{1, 0, 2, 0, 2, 1, complex(0, 1)}[i]
		next, ok := impl.FlowPhases(cross(sides[0], sides[1], sides[2], sides[3]), 0, 0, 1)
		wantBool(t, "FlowPhases of a cross", ok, true)
		wantComplex(t, named("the middle of a cross", sides), next.Cells[4], bitsOf(real(want)), bitsOf(imag(want)))
	}
	// The difference to a neighbour is rounded before it is added.
	wantFlow("rounded differences", rowOfPhases(0x1p25, 1), 0, 0, 1, 0, 0x1p25)
}

// Zeros have signs, and what is told with -0 too.
func TestFlowPhasesOfZeros(t *testing.T) {
	zeros := []uint32{0, minusZero}
	for _, a := range zeros {
		for _, b := range zeros {
			for _, by := range zeros {
				for _, near := range zeros {
					p := rowOfPhases(cnum(a, b))
					want, ok := flowOfPhases(p, num(by), 1, num(near))
					wantPhases(t, named("FlowPhases of zeros", a, b, by, near), all(impl.FlowPhases(p, num(by), 1, num(near))), want, ok)
				}
			}
		}
	}
	next, _ := impl.FlowPhases(rowOfPhases(cnum(minusZero, minusZero)), 0, 0, num(minusZero))
	wantComplex(t, "FlowPhases of -0", next.Cells[0], 0, minusZero)
	// Without a turn, the imaginary part of what a phase is multiplied with is +0.
	next, _ = impl.FlowPhases(rowOfPhases(cnum(minusZero, 0)), 1, 0, num(minusZero))
	wantComplex(t, "FlowPhases of -0 and 0", next.Cells[0], minusZero, 0)
}

func TestFlowPhasesThatFail(t *testing.T) {
	for _, p := range badPhases() {
		wantNone(t, named("FlowPhases", p), all(impl.FlowPhases(p, 0, 0, 0)))
	}
	// Numbers that are not finite fail, whatever they are multiplied with.
	for _, p := range []impl.Phases{rowOfPhases(0), rowOfPhases(1), rowOfPhases(0, 0)} {
		for _, bits := range []uint32{infinity, minusEndless, notANumber} {
			wantNone(t, named("FlowPhases by", num(bits)), all(impl.FlowPhases(p, num(bits), 0, 0)))
			wantNone(t, named("FlowPhases with a turn", num(bits)), all(impl.FlowPhases(p, 0, num(bits), 0)))
			wantNone(t, named("FlowPhases with near", num(bits)), all(impl.FlowPhases(p, 0, 0, num(bits))))
		}
	}
	// Results that are not finite: powers, products, differences and sums.
	for _, p := range []impl.Phases{rowOfPhases(1e20), rowOfPhases(complex(0, 1e20)), rowOfPhases(3e38, -3e38), rowOfPhases(2e13), rowOfPhases(1, 1, 1e30), rowOfPhases(1, complex(0, 2e13))} {
		for _, n := range [][3]float32{{0, 0, 0}, {1, 1, 1}} {
			wantNone(t, named("FlowPhases of what is great", p, n), all(impl.FlowPhases(p, n[0], n[1], n[2])))
		}
	}
	wantPhases(t, "FlowPhases of what is less great", all(impl.FlowPhases(rowOfPhases(0x1p40), 0, 0, 0)), rowOfPhases(0x1p40), true)
	wantPhases(t, "FlowPhases of what is less great", all(impl.FlowPhases(rowOfPhases(0x1p40), 0x1p-100, 0, 0)), rowOfPhases(0x1p40-0x1p20), true)
	wantNone(t, "FlowPhases of a great by", all(impl.FlowPhases(rowOfPhases(3), 3e38, 0, 0)))
	wantNone(t, "FlowPhases of a great near", all(impl.FlowPhases(rowOfPhases(1, 3), 0, 0, 3e38)))
	wantNone(t, "FlowPhases of a great turn", all(impl.FlowPhases(rowOfPhases(3), 0, 3e38, 0)))
	wantNone(t, "FlowPhases of a great imaginary part", all(impl.FlowPhases(rowOfPhases(1, complex(0, 3e38), complex(0, -3e38)), 0, 0, 1)))
}

func TestMeanPhase(t *testing.T) {
	failed := 0
	for _, p := range drawnPhases(773) {
		var sum complex64
		for _, z := range p.Cells {
			sum = sumOfPhases(sum, z)
		}
		count := float32(len(p.Cells))
		want, got := complex(over(real(sum), count), over(imag(sum), count)), all(impl.MeanPhase(p))
		if isFinitePhase(want) {
			wantOnly(t, named("MeanPhase", p), got, want)
		} else {
			failed++
			wantNone(t, named("MeanPhase", p), got)
		}
	}
	if failed == 0 {
		t.Error("MeanPhase did not fail")
	}
	for _, p := range badPhases() {
		wantNone(t, named("MeanPhase", p), all(impl.MeanPhase(p)))
	}
	wantOnly(t, "MeanPhase of two", all(impl.MeanPhase(rowOfPhases(complex(1, 4), complex(2, -8)))), complex(float32(1.5), float32(-2)))
	// The sum begins with 0, goes row by row, and is rounded each time.
	wantOnly(t, "MeanPhase of -0", all(impl.MeanPhase(rowOfPhases(cnum(minusZero, minusZero)))), complex64(0))
	wantOnly(t, "MeanPhase in order", all(impl.MeanPhase(impl.Phases{Rows: 2, Columns: 2, Cells: []complex64{0x1p24, 1, -0x1p24, 4}})), complex64(1))
	wantOnly(t, "MeanPhase in order", all(impl.MeanPhase(impl.Phases{Rows: 2, Columns: 2, Cells: []complex64{0x1p24, -0x1p24, 1, 3}})), complex64(1))
	wantNone(t, "MeanPhase of a sum that is not finite", all(impl.MeanPhase(rowOfPhases(3e38, 3e38))))
	wantNone(t, "MeanPhase of a sum that would be", all(impl.MeanPhase(rowOfPhases(3e38, 3e38, -3e38))))
	wantNone(t, "MeanPhase of an imaginary sum", all(impl.MeanPhase(rowOfPhases(complex(0, -3e38), complex(1, -3e38)))))
	wantOnly(t, "MeanPhase of a great sum", all(impl.MeanPhase(rowOfPhases(3e38, -3e38, 3e38))), complex64(complex(float32(3e38)/3, 0)))
	// There can be more than MaxNumbers.
	wantOnly(t, "MeanPhase of most", all(impl.MeanPhase(phasesThat(24, 24, func(int) complex64 { return complex(0.5, -2) }))), complex64(complex(0.5, -2)))
}

// windingsOfPhases returns what WindingOfPhases does of valid phases that have
// blocks.
func windingsOfPhases(p impl.Phases) ([]int64, bool) {
	var windings []int64
	for _, block := range blocksOf(p.Rows, p.Columns) {
		var turns float32
		for i, at := range block {
			z := productOf(p.Cells[block[(i+1)%4]], complex(real(p.Cells[at]), -imag(p.Cells[at])))
			if !isFinitePhase(z) {
				return nil, false
			}
			turns = plus(turns, angleOf(z))
		}
		windings = append(windings, int64(math.Floor(float64(plus(turns, 0.5)))))
	}
	return windings, true
}

func TestWindingOfPhases(t *testing.T) {
	failed, turning := 0, 0
	for _, p := range drawnPhases(787) {
		got := all(impl.WindingOfPhases(p))
		want, ok := windingsOfPhases(p)
		if ok = ok && p.Rows > 1 && p.Columns > 1; ok {
			wantOnly(t, named("WindingOfPhases", p), got, want)
			turning += int(countThat(want, func(n int64) bool { return n != 0 }))
		} else {
			failed += boolNumber(p.Rows > 1 && p.Columns > 1)
			wantNone(t, named("WindingOfPhases", p), got)
		}
	}
	if failed == 0 || turning == 0 {
		t.Errorf("WindingOfPhases failed %d times, and %d blocks turn", failed, turning)
	}
	for _, p := range badPhases() {
		wantNone(t, named("WindingOfPhases", p), all(impl.WindingOfPhases(p)))
	}
}

func TestWindingOfPhasesByHand(t *testing.T) {
	const i = complex64(1i)
	wantTurns := func(what string, p impl.Phases, want ...int64) {
		t.Helper()
		wantOnly(t, what, all(impl.WindingOfPhases(p)), want)
	}
	wantTurns("to the right", blockOfPhases(1, i, -1, -i), 1)
	wantTurns("to the left", blockOfPhases(1, -i, -1, i), -1)
	wantTurns("from another cell on", blockOfPhases(-i, 1, i, -1), 1)
	wantTurns("not at all", blockOfPhases(1, i, 1, i), 0)
	wantTurns("how long phases are", blockOfPhases(7, i/4, -300, -i), 1)
	wantTurns("phases of 0", blockOfPhases(0, 0, 0, 0), 0)
	wantTurns("a phase of 0", blockOfPhases(1, i, -1, 0), 1)
	wantTurns("two phases of 0", blockOfPhases(1, i, 0, 0), 0)
	// Half turns are told by signs of zeros: from 1 to -1, and from there to 1,
	// both are forward.
	wantTurns("half turns", blockOfPhases(1, -1, 1, -1), 2)
	wantTurns("half turns and quarters", blockOfPhases(1, -1, -i, 1), 1)
	// The sum, and what is added to it, are 32-bit numbers: the greatest number less
	// than 0.5 makes 1 with 0.5.
	almost := complex64(complex(-1, 1.87e-7))
	wantNumber(t, "an angle that is almost half a turn", impl.AngleOf(almost), 0x3effffff)
	wantTurns("almost half a turn", blockOfPhases(1, almost, 0, 0), 1)
	wantTurns("less than that", blockOfPhases(1, complex(-1, 1e-6), 0, 0), 0)
	wantTurns("half a turn", blockOfPhases(1, -1, 0, 0), 1)
	wantTurns("half a turn back", blockOfPhases(1, complex(-1, num(leastNumber|minusZero)), 0, 0), 0)
	wantTurns("more than half a turn back", blockOfPhases(1, -i, complex(-1, 0.01), 0), -1)
	// A row of blocks, and a column of them.
	wantTurns("a row of blocks", impl.Phases{Rows: 2, Columns: 3, Cells: []complex64{1, i, -1, -i, -1, i}}, 1, 0)
	wantTurns("a column of blocks", impl.Phases{Rows: 3, Columns: 2, Cells: []complex64{1, 1, 1, i, -i, -1}}, 0, 1)
	for _, p := range []impl.Phases{rowOfPhases(1), rowOfPhases(1, i, -1), phasesThat(24, 1, func(int) complex64 { return 1 })} {
		wantNone(t, named("WindingOfPhases", p), all(impl.WindingOfPhases(p)))
	}
	// Products that are not finite have no angles.
	wantNone(t, "WindingOfPhases of great phases", all(impl.WindingOfPhases(blockOfPhases(1, 1, 1e30, 1e30))))
	wantNone(t, "WindingOfPhases of a great phase", all(impl.WindingOfPhases(blockOfPhases(complex(3e38, 3e38), complex(3e38, -3e38), 0, 0))))
	wantTurns("a great phase beside small ones", blockOfPhases(1e-30, 1e30, 1e-30, 1e30), 0)
	wantTurns("subnormal phases", blockOfPhases(complex(1e-40, 0), complex(0, 1e-40), complex(-1e-40, 0), complex(0, -1e-40)), 0)
}
