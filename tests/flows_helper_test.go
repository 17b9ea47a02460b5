package tests

import (
	"math"
	"slices"

	"loop.example/g01381/impl"
)

// The operations on 32-bit numbers, each made with 64-bit ones, which are so long
// that rounding once more changes nothing.
func plus(a, b float32) float32  { return float32(float64(a) + float64(b)) }
func less(a, b float32) float32  { return float32(float64(a) - float64(b)) }
func times(a, b float32) float32 { return float32(float64(a) * float64(b)) }
func over(a, b float32) float32  { return float32(float64(a) / float64(b)) }

// isFinite reports whether all numbers of a list are finite.
func isFinite(list ...float32) bool {
	return !slices.ContainsFunc(list, func(x float32) bool { return math.IsNaN(float64(x)) || math.IsInf(float64(x), 0) })
}

// partWay returns how many rows down and columns to the right a part goes.
func partWay(q int) (int64, int64) {
	return []int64{0, 0, 1, 0, -1, 1, 1, -1, -1}[q], []int64{0, 1, 0, -1, 0, 1, -1, -1, 1}[q]
}

// weightOf returns the weight of a part: 4/9, 1/9 or 1/36.
func weightOf(q int) float32 {
	return num([]uint32{0x3ee38e39, 0x3de38e39, 0x3de38e39, 0x3de38e39, 0x3de38e39, 0x3ce38e39, 0x3ce38e39, 0x3ce38e39, 0x3ce38e39}[q])
}

// calmOf returns the calm parts of a mass and speeds.
func calmOf(m, u, v float32) []float32 {
	var parts []float32
	for q := range 9 {
		a, b := partWay(q)
		e := plus(times(float32(a), u), times(float32(b), v))
		first := plus(plus(1, times(3, e)), times(times(4.5, e), e))
		second := times(1.5, plus(times(u, u), times(v, v)))
		parts = append(parts, times(times(weightOf(q), m), less(first, second)))
	}
	return parts
}

// massOfParts returns the mass of a cell.
func massOfParts(parts []float32) float32 {
	var sum float32
	for _, x := range parts {
		sum = plus(sum, x)
	}
	return sum
}

// speedsOf returns the speeds of a cell.
func speedsOf(parts []float32) (float32, float32) {
	var down, right float32
	for q, x := range parts {
		a, b := partWay(q)
		down, right = plus(down, times(float32(a), x)), plus(right, times(float32(b), x))
	}
	return over(down, massOfParts(parts)), over(right, massOfParts(parts))
}

// partsAt returns the parts of a cell.
func partsAt(f impl.Flow, at int) []float32 { return f.Parts[9*at : 9*at+9] }

// withParts returns a flow with other parts.
func withParts(f impl.Flow, parts []float32) impl.Flow {
	return impl.Flow{Rows: f.Rows, Columns: f.Columns, Parts: parts, Walls: f.Walls}
}

// relaxOf returns what RelaxFlow does of a valid flow and share.
func relaxOf(f impl.Flow, share float32) (impl.Flow, bool) {
	var parts []float32
	for at, wall := range f.Walls {
		cell := partsAt(f, at)
		if wall {
			parts = append(parts, cell[0], cell[3], cell[4], cell[1], cell[2], cell[7], cell[8], cell[5], cell[6])
			continue
		}
		m := massOfParts(cell)
		if math.IsNaN(float64(m)) || m <= 0 {
			return impl.Flow{}, false
		}
		u, v := speedsOf(cell)
		for q, calm := range calmOf(m, u, v) {
			parts = append(parts, plus(cell[q], times(share, less(calm, cell[q]))))
		}
	}
	if !isFinite(parts...) {
		return impl.Flow{}, false
	}
	return withParts(f, parts), true
}

// streamFlow returns what StreamFlow does of a valid flow, told by where the
// parts of a cell come from.
func streamFlow(f impl.Flow) impl.Flow {
	var parts []float32
	for at := range int64(len(f.Walls)) {
		for q := range 9 {
			a, b := partWay(q)
			row, column := around(at/f.Columns-a, f.Rows), around(at%f.Columns-b, f.Columns)
			parts = append(parts, f.Parts[9*(row*f.Columns+column)+int64(q)])
		}
	}
	return withParts(f, parts)
}

// flowAfter returns what RunFlow does of a valid flow and share.
func flowAfter(f impl.Flow, share float32, steps int64) (impl.Flow, bool) {
	for range steps {
		var ok bool
		if f, ok = relaxOf(f, share); !ok {
			return impl.Flow{}, false
		}
		f = streamFlow(f)
	}
	return f, true
}

// massOf returns what MassOf does of a valid flow.
func massOf(f impl.Flow) (float32, bool) {
	var sum float32
	for at := range f.Walls {
		sum = plus(sum, massOfParts(partsAt(f, at)))
	}
	if !isFinite(sum) {
		return 0, false
	}
	return sum, true
}

// evenOf returns a flow with equal cells.
func evenOf(rows, columns int64, parts []float32) impl.Flow {
	return impl.Flow{Rows: rows, Columns: columns, Parts: slices.Repeat(parts, int(rows*columns)), Walls: make([]bool, rows*columns)}
}

// share draws a number from 0 to 1.
func (l *luck) share() float32 { return float32(l.below(1<<24)) / (1 << 24) }

// flow draws a flow whose cells are calm, but for small numbers.
func (l *luck) flow(rows, columns, kind int64) impl.Flow {
	f := impl.Flow{Rows: rows, Columns: columns, Walls: l.walls(rows, columns, kind)}
	for range f.Walls {
		for _, x := range calmOf(0.5+l.share(), (l.share()-0.5)/3, (l.share()-0.5)/3) {
			f.Parts = append(f.Parts, x*(0.9+l.share()/5))
		}
	}
	return f
}

// wildFlow draws a flow whose parts are finite numbers of all kinds.
func (l *luck) wildFlow(rows, columns, kind int64) impl.Flow {
	f := l.flow(rows, columns, kind)
	list := slices.DeleteFunc(seldom(), func(x float32) bool { return !isFinite(x) })
	for at := range f.Parts {
		switch l.below(8) {
		case 0:
			f.Parts[at] = list[l.below(int64(len(list)))]
		case 1:
			f.Parts[at] = -f.Parts[at]
		case 2:
			f.Parts[at] = num(minusZero)
		}
	}
	return f
}

// drawnFlows returns flows with all sides and kinds of walls.
func drawnFlows(seed uint64) []impl.Flow {
	l := &luck{seed}
	var flows []impl.Flow
	for _, s := range sides() {
		for kind := range int64(wallKinds) {
			flows = append(flows, l.flow(s[0], s[1], kind), l.wildFlow(s[0], s[1], kind))
		}
	}
	return append(flows, edgeFlows()...)
}

// edgeFlows returns flows of a few cells, at which functions are likely to be
// wrong: with equal parts of all kinds, and masses that are 0, negative, the
// least and the greatest.
func edgeFlows() []impl.Flow {
	var flows []impl.Flow
	for _, x := range seldom() {
		if !isFinite(x) {
			continue
		}
		for q := range 9 {
			one, rest := make([]float32, 9), many(x, 9)
			one[q], rest[q] = x, -x
			flows = append(flows, evenOf(1, 1, one), evenOf(1, 2, rest))
		}
		flows = append(flows, evenOf(2, 1, many(x, 9)), evenOf(1, 1, []float32{x, -x, x, -x, 0, 0, 0, 0, 0}),
			evenOf(1, 3, calmOf(x, 0, 0)), evenOf(2, 2, calmOf(x, 0.1, -0.2)))
	}
	for _, m := range []float32{0, -1, 1, 1e-45, 1e-40, 3e38, 3.4e38, -3.4e38} {
		flows = append(flows, evenOf(1, 1, []float32{m, 0, 0, 0, 0, 0, 0, 0, 0}), evenOf(1, 1, []float32{m, m, -m, 0, 0, 0, 0, 0, m}))
	}
	return slices.DeleteFunc(flows, func(f impl.Flow) bool { return !isFinite(f.Parts...) })
}

// badFlows returns flows that are not valid.
func badFlows() []impl.Flow {
	const end = 1<<63 - 1
	calm := calmOf(1, 0, 0)
	flows := []impl.Flow{
		{}, {Parts: []float32{}, Walls: []bool{}}, {Rows: 1, Columns: 1}, {Rows: 1, Columns: 1, Parts: calm},
		{Rows: 1, Columns: 1, Walls: []bool{false}}, {Rows: 1, Columns: 1, Parts: calm[1:], Walls: []bool{false}},
		{Rows: 1, Columns: 1, Parts: append(slices.Clone(calm), 1), Walls: []bool{false}},
		{Rows: 1, Columns: 1, Parts: calm, Walls: []bool{false, false}},
		{Rows: 1, Columns: 2, Parts: calm, Walls: []bool{false, false}},
		{Rows: 1, Columns: 2, Parts: many(float32(1), 18), Walls: []bool{false}},
		{Rows: 2, Columns: 2, Parts: many(float32(1), 35), Walls: make([]bool, 4)},
		{Rows: 2, Columns: 2, Parts: many(float32(1), 37), Walls: make([]bool, 4)},
		{Rows: 2, Columns: 2, Parts: many(float32(1), 36), Walls: make([]bool, 5)},
		{Rows: 0, Columns: 1}, {Rows: 1, Columns: 0, Parts: calm, Walls: []bool{false}},
		{Rows: -1, Columns: -1, Parts: calm, Walls: []bool{false}}, {Rows: end, Columns: end, Parts: calm, Walls: []bool{false}},
		{Rows: -end - 1, Columns: -end - 1}, {Rows: 1 << 32, Columns: 1 << 32}, {Rows: 1 << 62, Columns: 4}, {Rows: end, Columns: 2},
		evenOf(impl.MaxSide+1, 1, calm), evenOf(1, impl.MaxSide+1, calm), evenOf(impl.MaxSide+1, impl.MaxSide, calm),
		evenOf(impl.MaxSide, impl.MaxSide+1, calm), evenOf(impl.MaxSide+1, impl.MaxSide+1, calm),
	}
	for _, bits := range []uint32{infinity, minusEndless, notANumber, 0xffc00000, 0x7f800001} {
		for q := range 9 {
			first, last := evenOf(1, 1, calm), evenOf(impl.MaxSide, 3, calm)
			first.Parts[q], last.Parts[len(last.Parts)-1-q] = num(bits), num(bits)
			wall := evenOf(1, 1, first.Parts)
			wall.Walls[0] = true
			flows = append(flows, first, last, wall)
		}
	}
	return flows
}
