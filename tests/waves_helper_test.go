package tests

import (
	"slices"

	"loop.example/g01381/impl"
)

// wavesAfter returns waves behind a step, told by the document's words.
func wavesAfter(f impl.Field, states, bar int64, round bool) impl.Field {
	return fieldThat(f.Rows, f.Columns, func(row, column int64) int64 {
		if state := cellAt(f, row, column, false); state != 0 {
			return around(state+1, states)
		}
		var excited int64
		for _, way := range stepsOfWays(4) {
			if cellAt(f, row+way[0], column+way[1], round) == 1 {
				excited++
			}
		}
		if excited >= bar {
			return 1
		}
		return 0
	})
}

// shortWay returns the shortest way from one state to another one, and of two that
// are as short that which goes over no end.
func shortWay(from, to, states int64) int64 {
	long := func(way int64) int64 { return max(way, -way) }
	short := to - from
	for _, way := range []int64{short - states, short + states} {
		if long(way) < long(short) {
			short = way
		}
	}
	return short
}

// blocksOf returns the places around each block of two rows and two columns.
func blocksOf(rows, columns int64) [][]int64 {
	var blocks [][]int64
	for row := int64(1); row < rows; row++ {
		for column := int64(1); column < columns; column++ {
			at := row*columns + column
			blocks = append(blocks, []int64{at - columns - 1, at - columns, at, at - 1})
		}
	}
	return blocks
}

// windingsOf returns the windings of waves that have blocks.
func windingsOf(f impl.Field, states int64) []int64 {
	var windings []int64
	for _, block := range blocksOf(f.Rows, f.Columns) {
		var sum int64
		for i, at := range block {
			sum += shortWay(f.Cells[at], f.Cells[block[(i+1)%4]], states)
		}
		windings = append(windings, sum/states)
	}
	return windings
}

// hasHalfWays reports whether some way around a block is just half of states.
func hasHalfWays(f impl.Field, states int64) bool {
	for _, block := range blocksOf(f.Rows, f.Columns) {
		for i, at := range block {
			if way := f.Cells[at] - f.Cells[block[(i+1)%4]]; 2*max(way, -way) == states {
				return true
			}
		}
	}
	return false
}

// drawnWaves returns waves with all extents: drawn ones, with few and with many
// cells that are not 0.
func drawnWaves(seed uint64, states int64) []impl.Field {
	l := &luck{seed}
	fields := drawnFields(seed, states-1)
	for _, s := range extents() {
		f := l.field(s[0], s[1], states-1)
		for at := range f.Cells {
			if l.below(2) == 0 {
				f.Cells[at] = l.below(2)
			}
		}
		fields = append(fields, f)
	}
	return fields
}

// waveStates are all numbers of states that waves can have.
func waveStates() []int64 { return []int64{3, 4, 5, 6, 7, 8, 9} }

// badWaves returns fields that are no waves with some states.
func badWaves(states int64) []impl.Field {
	first, last := evenField(2, 3, 0), evenField(impl.MaxField, impl.MaxField, 1)
	first.Cells[0], last.Cells[len(last.Cells)-1] = states, states
	return append(badFields(), first, last, evenField(2, 2, states), evenField(1, 1, states))
}

// phasesThat returns phases whose cells are told by a function.
func phasesThat(rows, columns int64, tell func(at int) complex64) impl.Phases {
	p := impl.Phases{Rows: rows, Columns: columns}
	for at := range int(rows * columns) {
		p.Cells = append(p.Cells, tell(at))
	}
	return p
}

// rowOfPhases returns phases of one row.
func rowOfPhases(cells ...complex64) impl.Phases {
	return impl.Phases{Rows: 1, Columns: int64(len(cells)), Cells: cells}
}

// blockOfPhases returns phases of two rows and two columns, told around.
func blockOfPhases(upperLeft, upperRight, lowerRight, lowerLeft complex64) impl.Phases {
	return impl.Phases{Rows: 2, Columns: 2, Cells: []complex64{upperLeft, upperRight, lowerLeft, lowerRight}}
}

// isFinitePhase reports whether both parts of all phases are finite.
func isFinitePhase(list ...complex64) bool {
	return !slices.ContainsFunc(list, func(z complex64) bool { return !isFinite(real(z), imag(z)) })
}

// finiteNumbers are finite numbers at which functions are likely to be wrong.
func finiteNumbers() []float32 {
	return slices.DeleteFunc(seldom(), func(x float32) bool { return !isFinite(x) })
}

// phase draws a phase with parts from -1.5 to 1.5.
func (l *luck) phase() complex64 { return complex(3*l.share()-1.5, 3*l.share()-1.5) }

// drawnPhases returns phases with all extents: ordinary ones, and ones with parts
// of all kinds.
func drawnPhases(seed uint64) []impl.Phases {
	l, list := &luck{seed}, finiteNumbers()
	one := func() float32 { return list[l.below(int64(len(list)))] }
	var phases []impl.Phases
	for _, s := range extents() {
		for range 2 {
			phases = append(phases, phasesThat(s[0], s[1], func(at int) complex64 { return l.phase() }))
		}
		phases = append(phases, phasesThat(s[0], s[1], func(at int) complex64 {
			switch l.below(12) {
			case 0:
				return complex(num(minusZero), l.share())
			case 1:
				return complex(num(leastNumber), -l.share()*0x1p-130)
			case 2:
				return complex(0, num(minusZero))
			}
			return l.phase()
		}))
		if s[0]*s[1] <= 9 {
			for range 12 {
				phases = append(phases, phasesThat(s[0], s[1], func(at int) complex64 { return complex(one(), one()) }))
			}
		}
	}
	for _, x := range list {
		phases = append(phases, rowOfPhases(complex(x, 0)), rowOfPhases(complex(1, x), complex(x, 1)), blockOfPhases(complex(x, x), 1, complex(0, 1), complex(-1, x)))
	}
	return phases
}

// badPhases returns phases that are not valid.
func badPhases() []impl.Phases {
	const end, most = 1<<63 - 1, impl.MaxField
	one := func(at int) complex64 { return 1 }
	phases := []impl.Phases{
		{}, {Cells: []complex64{}}, {Cells: []complex64{1}}, {Rows: 1, Columns: 1}, {Rows: 1, Columns: 1, Cells: []complex64{}},
		{Rows: 1, Columns: 1, Cells: []complex64{1, 1}}, {Rows: 1, Columns: 2, Cells: []complex64{1}},
		{Rows: 2, Columns: 2, Cells: []complex64{1, 1, 1}}, {Rows: 2, Columns: 2, Cells: []complex64{1, 1, 1, 1, 1}},
		{Rows: 0, Columns: 1}, {Rows: 1, Columns: 0}, {Rows: 0, Columns: 0, Cells: []complex64{1}},
		{Rows: -1, Columns: -1, Cells: []complex64{1}}, {Rows: -2, Columns: -2, Cells: []complex64{1, 1, 1, 1}},
		{Rows: end, Columns: end, Cells: []complex64{1}}, {Rows: -end - 1, Columns: -end - 1}, {Rows: -end - 1, Columns: 2},
		{Rows: 1 << 32, Columns: 1 << 32}, {Rows: 1 << 62, Columns: 4}, {Rows: 2, Columns: end},
		phasesThat(most+1, 1, one), phasesThat(1, most+1, one), phasesThat(most+1, most, one), phasesThat(most, most+1, one), phasesThat(most+1, most+1, one),
	}
	for _, bits := range []uint32{infinity, minusEndless, notANumber, 0xffc00000, 0x7f800001} {
		first, last := phasesThat(2, 3, one), phasesThat(most, most, one)
		first.Cells[0], last.Cells[len(last.Cells)-1] = complex(num(bits), 0), complex(0, num(bits))
		phases = append(phases, first, last, rowOfPhases(cnum(bits, bits)), rowOfPhases(1, cnum(0, bits)))
	}
	return phases
}

// productOf returns a product, whose parts are rounded as 64-bit numbers.
func productOf(x, y complex64) complex64 {
	a, b := from(float64(real(x))), from(float64(imag(x)))
	c, d := from(float64(real(y))), from(float64(imag(y)))
	return complex(float32(a.times(c).less(b.times(d)).wide()), float32(a.times(d).plus(b.times(c)).wide()))
}

// powerOf returns the power of a phase.
func powerOf(z complex64) float32 {
	a, b := from(float64(real(z))), from(float64(imag(z)))
	return float32(a.times(a).plus(b.times(b)).wide())
}

// angleOf returns the angle of a phase.
func angleOf(z complex64) float32 {
	if z == 0 {
		return 0
	}
	return float32(angle(imag(z), real(z)).wide())
}

// sumOfPhases returns a sum, and differenceOfPhases a difference.
func sumOfPhases(a, b complex64) complex64 {
	return complex(plus(real(a), real(b)), plus(imag(a), imag(b)))
}

func differenceOfPhases(a, b complex64) complex64 {
	return complex(less(real(a), real(b)), less(imag(a), imag(b)))
}

// scaledPhase returns a product with a number.
func scaledPhase(z complex64, by float32) complex64 {
	return complex(times(real(z), by), times(imag(z), by))
}

// flowOfPhases returns what FlowPhases does of what is valid. What is not finite
// on the way is not finite at the end.
func flowOfPhases(p impl.Phases, by, turn, near float32) (impl.Phases, bool) {
	next := impl.Phases{Rows: p.Rows, Columns: p.Columns}
	for at, z := range p.Cells {
		row, column := int64(at)/p.Columns, int64(at)%p.Columns
		var pull complex64
		for _, beside := range [][2]int64{{row - 1, column}, {row + 1, column}, {row, column - 1}, {row, column + 1}} {
			if beside[0] >= 0 && beside[0] < p.Rows && beside[1] >= 0 && beside[1] < p.Columns {
				pull = sumOfPhases(pull, differenceOfPhases(p.Cells[beside[0]*p.Columns+beside[1]], z))
			}
		}
		power := powerOf(z)
		growth := complex(less(1, power), less(0, times(turn, power)))
		if !isFinitePhase(growth, pull) {
			return impl.Phases{}, false
		}
		next.Cells = append(next.Cells, sumOfPhases(sumOfPhases(z, scaledPhase(productOf(z, growth), by)), scaledPhase(pull, near)))
	}
	if !isFinitePhase(next.Cells...) {
		return impl.Phases{}, false
	}
	return next, true
}
