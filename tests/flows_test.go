package tests

import (
	"math"
	"testing"

	"loop.example/g01381/impl"
)

// wantFlow checks a call of a function that makes a flow: it succeeds with the
// flow that is told by another way, or fails as it does.
func wantFlow(t *testing.T, what string, results []any, want impl.Flow, ok bool) {
	t.Helper()
	wantEach(t, what, results, []any{want, ok})
	if f := results[0].(impl.Flow); ok && !impl.ValidFlow(f) {
		t.Errorf("%s: not valid: %v", what, f)
	}
}

// shares are shares that RelaxFlow takes.
func shares() []float32 {
	return []float32{0, num(minusZero), num(leastNumber), num(leastNormal), 0.3, 0.5, 1, 1.7, num(0x3fffffff), 2}
}

func TestValidFlow(t *testing.T) {
	for _, f := range drawnFlows(401) {
		wantBool(t, named("ValidFlow", f), impl.ValidFlow(f), true)
	}
	for _, f := range badFlows() {
		wantBool(t, named("ValidFlow", f), impl.ValidFlow(f), false)
	}
	for _, x := range seldom() {
		for q := range 27 {
			f := evenOf(3, 1, make([]float32, 9))
			f.Parts[q] = x
			wantBool(t, named("ValidFlow of one part", x, q), impl.ValidFlow(f), isFinite(x))
		}
	}
	for rows := int64(-1); rows < 19; rows++ {
		for columns := int64(-1); columns < 19; columns++ {
			size := max(rows*columns, 0)
			f := impl.Flow{Rows: rows, Columns: columns, Parts: make([]float32, 9*size), Walls: make([]bool, size)}
			wantBool(t, named("ValidFlow of sides", rows, columns), impl.ValidFlow(f), rows >= 1 && rows <= 16 && columns >= 1 && columns <= 16)
		}
	}
}

func TestSameFlow(t *testing.T) {
	flows := append(append(edgeFlows(), badFlows()...), drawnFlows(409)[:40]...)
	texts := make([]string, len(flows))
	for i, f := range flows {
		texts[i] = shown(f.Rows, f.Columns, f.Parts, f.Walls)
	}
	for i, a := range flows {
		for k, b := range flows {
			if impl.SameFlow(a, b) != (texts[i] == texts[k]) {
				t.Errorf("SameFlow of %v and %v: got %v", a, b, impl.SameFlow(a, b))
			}
		}
	}
	// All not-a-numbers are one value, and zeros have signs.
	for _, x := range seldom() {
		for _, y := range seldom() {
			a, b := evenOf(1, 2, many(float32(1), 9)), evenOf(1, 2, many(float32(1), 9))
			a.Parts[17], b.Parts[17] = x, y
			wantBool(t, named("SameFlow of parts", x, y), impl.SameFlow(a, b), bitsOf(x) == bitsOf(y))
		}
	}
	f := evenOf(1, 2, many(float32(1), 9))
	for _, other := range []impl.Flow{
		{Rows: 2, Columns: 2, Parts: f.Parts, Walls: f.Walls}, {Rows: 2, Columns: 1, Parts: f.Parts, Walls: f.Walls},
		{Rows: 1, Columns: 1, Parts: f.Parts, Walls: f.Walls}, {Rows: 1, Columns: 2, Parts: f.Parts[1:], Walls: f.Walls},
		{Rows: 1, Columns: 2, Parts: f.Parts, Walls: []bool{false, true}}, {Rows: 1, Columns: 2, Parts: f.Parts, Walls: []bool{false}},
		{Rows: 1, Columns: 2, Parts: f.Parts, Walls: []bool{false, false, false}}, {Rows: 1, Columns: 2, Parts: append(many(float32(1), 18), 1), Walls: f.Walls},
		{},
	} {
		wantBool(t, named("SameFlow", f, other), impl.SameFlow(f, other) || impl.SameFlow(other, f), false)
	}
	wantBool(t, "SameFlow of empty lists", impl.SameFlow(impl.Flow{Rows: 9}, impl.Flow{Rows: 9, Parts: []float32{}, Walls: []bool{}}), true)
}

// evenMasses and evenSpeeds are what EvenFlow is told.
func evenMasses() []float32 {
	return append(seldom(), 0.3, -0.3, 7, 1e30, -1e30, 3e38, 1e-30)
}

func evenSpeeds() []float32 {
	return []float32{0, num(minusZero), 0.1, -0.1, 0.5, -0.5, 1, -1, 3, num(leastNumber), num(leastNormal | minusZero), 1e-20, 1e18, -1e18, 1e20, num(mostNumber), num(infinity), num(minusEndless), num(notANumber)}
}

func TestEvenFlow(t *testing.T) {
	failed, fine := 0, 0
	for _, mass := range evenMasses() {
		for _, down := range evenSpeeds() {
			for _, right := range evenSpeeds() {
				parts, got := calmOf(mass, down, right), all(impl.EvenFlow(2, 1, mass, down, right))
				if ok := isFinite(parts...); ok {
					fine++
					wantFlow(t, named("EvenFlow", mass, down, right), got, evenOf(2, 1, parts), true)
				} else {
					failed++
					wantNone(t, named("EvenFlow", mass, down, right), got)
				}
			}
		}
	}
	if failed == 0 || fine == 0 {
		t.Errorf("EvenFlow failed %d times, and succeeded %d times", failed, fine)
	}
	for _, s := range sides() {
		wantFlow(t, named("EvenFlow", s), all(impl.EvenFlow(s[0], s[1], 1.5, 0.1, -0.2)), evenOf(s[0], s[1], calmOf(1.5, 0.1, -0.2)), true)
	}
	wantLimits(t, "EvenFlow with rows", 1, impl.MaxSide, func(n int64) []any { return all(impl.EvenFlow(n, 2, 1, 0, 0)) })
	wantLimits(t, "EvenFlow with columns", 1, impl.MaxSide, func(n int64) []any { return all(impl.EvenFlow(2, n, 1, 0, 0)) })
	for _, n := range ends() {
		wantNone(t, "EvenFlow far", all(impl.EvenFlow(n, n, 1, 0, 0)))
	}
	wantFlow(t, "EvenFlow of 0", all(impl.EvenFlow(1, 1, 0, 0, 0)), evenOf(1, 1, make([]float32, 9)), true)
	wantFlow(t, "EvenFlow of -0", all(impl.EvenFlow(1, 1, num(minusZero), 0, 0)), evenOf(1, 1, many(num(minusZero), 9)), true)
	f, _ := impl.EvenFlow(1, 1, 1, 0, 0)
	for q, bits := range []uint32{0x3ee38e39, 0x3de38e39, 0x3de38e39, 0x3de38e39, 0x3de38e39, 0x3ce38e39, 0x3ce38e39, 0x3ce38e39, 0x3ce38e39} {
		wantNumber(t, named("a calm part", q), f.Parts[q], bits)
	}
	// A flow down has more in parts that go down than in those that go up.
	f, _ = impl.EvenFlow(1, 1, 1, 0.1, 0)
	wantBool(t, "parts that go down", f.Parts[2] > f.Parts[4] && f.Parts[5] > f.Parts[8] && f.Parts[6] > f.Parts[7] && f.Parts[1] == f.Parts[3], true)
	f, _ = impl.EvenFlow(1, 1, 1, 0, 0.1)
	wantBool(t, "parts that go to the right", f.Parts[1] > f.Parts[3] && f.Parts[5] > f.Parts[6] && f.Parts[8] > f.Parts[7] && f.Parts[2] == f.Parts[4], true)
}

func TestMassOf(t *testing.T) {
	for _, f := range drawnFlows(419) {
		mass, ok := massOf(f)
		wantEach(t, named("MassOf", f), all(impl.MassOf(f)), []any{mass, ok})
	}
	large := evenOf(1, 1, []float32{3e38, 3e38, -3e38, 0, 0, 0, 0, 0, 0})
	wantNone(t, "MassOf of parts that are too large together", all(impl.MassOf(large)))
	large = evenOf(1, 2, []float32{3e38, 0, 0, 0, 0, 0, 0, 0, 0})
	wantNone(t, "MassOf of cells that are too large together", all(impl.MassOf(large)))
	wantNone(t, "MassOf of cells that are too small together", all(impl.MassOf(evenOf(2, 1, []float32{0, -3e38, 0, 0, 0, 0, 0, 0, 0}))))
	wantOnly(t, "MassOf of zeros", all(impl.MassOf(evenOf(2, 2, many(num(minusZero), 9)))), float32(0))
	wantOnly(t, "MassOf of a negative mass", all(impl.MassOf(evenOf(2, 2, many(float32(-1), 9)))), float32(-36))
	// Each cell is summed on its own: a small one is lost behind a large one.
	f := evenOf(1, 2, []float32{0x1p24, 0, 0, 0, 0, 0, 0, 0, 0})
	copy(f.Parts[9:], []float32{1, 1, 1, 1, 0, 0, 0, 0, 0})
	wantOnly(t, "MassOf of cells", all(impl.MassOf(f)), float32(0x1p24+4))
	copy(f.Parts[9:], []float32{1, 0, 0, 0, 0, 0, 0, 0, 0})
	wantOnly(t, "MassOf of a small cell", all(impl.MassOf(f)), float32(0x1p24))
}

func TestCellOfFlow(t *testing.T) {
	failed := 0
	for _, f := range drawnFlows(421) {
		for row := int64(-1); row <= f.Rows; row++ {
			for column := int64(-1); column <= f.Columns; column++ {
				got := all(impl.CellOfFlow(f, row, column))
				if row < 0 || column < 0 || row == f.Rows || column == f.Columns {
					wantNone(t, named("CellOfFlow beyond", row, column), got)
					continue
				}
				parts := partsAt(f, int(row*f.Columns+column))
				m, ok := massOfParts(parts), false
				u, v := speedsOf(parts)
				if ok = m > 0 && isFinite(m, u, v); ok {
					wantAll(t, named("CellOfFlow", f, row, column), got, m, u, v)
				} else {
					failed++
					wantNone(t, named("CellOfFlow", f, row, column), got)
				}
			}
		}
	}
	if failed == 0 {
		t.Error("CellOfFlow did not fail")
	}
	f := evenOf(2, 3, make([]float32, 9))
	for at, m := range []float32{1, 2, 3, 4, 5, 6} {
		copy(f.Parts[9*at:], []float32{0, m / 2, m / 2, 0, 0, 0, 0, 0, 0})
	}
	wantAll(t, "the first cell", all(impl.CellOfFlow(f, 0, 0)), float32(1), float32(0.5), float32(0.5))
	wantAll(t, "the last cell", all(impl.CellOfFlow(f, 1, 2)), float32(6), float32(0.5), float32(0.5))
	wantAll(t, "the third cell", all(impl.CellOfFlow(f, 0, 2)), float32(3), float32(0.5), float32(0.5))
	wantAll(t, "a cell of subnormal mass", all(impl.CellOfFlow(evenOf(1, 1, []float32{0, num(leastNumber), 0, 0, 0, 0, 0, 0, 0}), 0, 0)), num(leastNumber), float32(0), float32(1))
	wantAll(t, "a cell that goes up and to the left", all(impl.CellOfFlow(evenOf(1, 1, []float32{1, 0, 0, 1, 1, 0, 0, 1, 0}), 0, 0)), float32(4), float32(-0.5), float32(-0.5))
	wantNone(t, "a cell of mass 0", all(impl.CellOfFlow(evenOf(1, 1, make([]float32, 9)), 0, 0)))
	wantNone(t, "a cell of a negative mass", all(impl.CellOfFlow(evenOf(1, 1, many(float32(-1), 9)), 0, 0)))
	wantNone(t, "a cell of too large a mass", all(impl.CellOfFlow(evenOf(1, 1, many(float32(3e38), 9)), 0, 0)))
	wantNone(t, "a speed that is too large", all(impl.CellOfFlow(evenOf(1, 1, []float32{0, 3e38, 0, -3e38, 0, 0, 0, 0, 1}), 0, 0)))
	for _, n := range ends() {
		wantNone(t, "CellOfFlow far", all(impl.CellOfFlow(f, n, 0)))
		wantNone(t, "CellOfFlow far", all(impl.CellOfFlow(f, 0, n)))
	}
	// A wall has a mass, too.
	f.Walls[0] = true
	wantAll(t, "a cell with a wall", all(impl.CellOfFlow(f, 0, 0)), float32(1), float32(0.5), float32(0.5))
}

func TestRelaxFlow(t *testing.T) {
	failed, fine := 0, 0
	for _, f := range drawnFlows(431) {
		for _, share := range shares() {
			want, ok := relaxOf(f, share)
			wantFlow(t, named("RelaxFlow", f, share), all(impl.RelaxFlow(f, share)), want, ok)
			if ok {
				fine++
			} else {
				failed++
			}
		}
	}
	if failed == 0 || fine == 0 {
		t.Errorf("RelaxFlow failed %d times, and succeeded %d times", failed, fine)
	}
	f := evenOf(1, 1, calmOf(1, 0.1, 0))
	for _, x := range append(seldom(), num(0x40000001), num(0x80000001), -0.5, -1, -2, 2.5) {
		wantBool(t, named("RelaxFlow with the share", x), succeeds(all(impl.RelaxFlow(f, x))), x >= 0 && x <= 2)
		wantBool(t, named("RunFlow with the share", x), succeeds(all(impl.RunFlow(f, x, 1))), x >= 0 && x <= 2)
		if !(x >= 0 && x <= 2) {
			wantNone(t, named("RelaxFlow with the share", x), all(impl.RelaxFlow(f, x)))
			wantNone(t, named("RunFlow with the share", x), all(impl.RunFlow(f, x, 1)))
			wantNone(t, named("RunFlow without steps, with the share", x), all(impl.RunFlow(f, x, 0)))
			wantNone(t, named("FlowsShared with the share", x), all(impl.FlowsShared([]impl.Flow{f}, x, 0, 1)))
		}
	}
	// With the share 0 parts stay, and with the share 1 they are calm.
	still, _ := impl.RelaxFlow(f, 0)
	wantBool(t, "a share of 0", impl.SameFlow(still, f), true)
	l := &luck{433}
	for range 50 {
		f := l.flow(2, 2, 0)
		calm, _ := impl.RelaxFlow(f, 1)
		for at := range f.Walls {
			u, v := speedsOf(partsAt(f, at))
			for q, want := range calmOf(massOfParts(partsAt(f, at)), u, v) {
				if math.Abs(float64(partsAt(calm, at)[q]-want)) > 1e-6 {
					t.Errorf("a share of 1: got the part %v, want about %v", partsAt(calm, at)[q], want)
				}
			}
		}
	}
}

// Walls exchange their parts, whatever their mass is, and cells without walls
// must have some.
func TestRelaxWalls(t *testing.T) {
	parts := []float32{10, 11, 12, 13, 14, 15, 16, 17, 18}
	wall := evenOf(1, 1, parts)
	wall.Walls[0] = true
	for _, share := range shares() {
		wantFlow(t, "a wall", all(impl.RelaxFlow(wall, share)), withParts(wall, []float32{10, 13, 14, 11, 12, 17, 18, 15, 16}), true)
	}
	for _, parts := range [][]float32{make([]float32, 9), many(float32(-1), 9), many(float32(3e38), 9), many(num(minusZero), 9), {0, num(minusZero), 0, 1, -1, -1, 0, 0, 0}} {
		f := evenOf(1, 2, parts)
		copy(f.Parts, calmOf(1, 0, 0))
		wantNone(t, named("a cell without mass", parts), all(impl.RelaxFlow(f, 0)))
		wantNone(t, named("a cell without mass", parts), all(impl.RunFlow(f, 0, 1)))
		wantFlow(t, named("no steps", parts), all(impl.RunFlow(f, 0, 0)), f, true)
		f.Walls[1] = true
		want, _ := relaxOf(f, 1)
		wantFlow(t, named("a wall without mass", parts), all(impl.RelaxFlow(f, 1)), want, true)
	}
	// A share of 2 of what is great enough is not finite.
	for _, parts := range [][]float32{{3e38, 0, 0, 0, 0, 0, 0, 0, 0}, {0, 0, 0, 0, 0, 0, 3e38, 0, 0}, {1e38, 0, 0, 0, 0, 0, 0, 0, 1e38}} {
		f := evenOf(1, 1, parts)
		for _, share := range shares() {
			want, ok := relaxOf(f, share)
			wantFlow(t, named("a great cell", parts, share), all(impl.RelaxFlow(f, share)), want, ok)
		}
	}
}

// A part goes over each border and corner.
func TestStreamFlow(t *testing.T) {
	for _, f := range drawnFlows(439) {
		wantFlow(t, named("StreamFlow", f), all(impl.StreamFlow(f)), streamFlow(f), true)
	}
	for _, s := range sides() {
		f := evenOf(s[0], s[1], make([]float32, 9))
		for at := range f.Walls {
			if at > 9 && at < len(f.Walls)-9 {
				continue
			}
			for q := range 9 {
				one, next := make([]float32, len(f.Parts)), make([]float32, len(f.Parts))
				one[9*at+q] = 1.5
				a, b := partWay(q)
				row, column := around(int64(at)/s[1]+a, s[0]), around(int64(at)%s[1]+b, s[1])
				next[9*(row*s[1]+column)+int64(q)] = 1.5
				wantFlow(t, named("StreamFlow of one part", s, at, q), all(impl.StreamFlow(withParts(f, one))), withParts(f, next), true)
			}
		}
	}
	// Nothing of a single cell goes anywhere else.
	f := evenOf(1, 1, []float32{1, 2, 3, 4, 5, 6, 7, 8, 9})
	wantFlow(t, "StreamFlow of one cell", all(impl.StreamFlow(f)), f, true)
	f = evenOf(1, 2, make([]float32, 9))
	copy(f.Parts, []float32{1, 2, 3, 4, 5, 6, 7, 8, 9})
	wantFlow(t, "StreamFlow of two cells", all(impl.StreamFlow(f)), withParts(f, []float32{1, 0, 3, 0, 5, 0, 0, 0, 0, 0, 2, 0, 4, 0, 6, 7, 8, 9}), true)
}

func TestRunFlow(t *testing.T) {
	failed, fine := 0, 0
	for i, f := range drawnFlows(443) {
		share := shares()[i%len(shares())]
		for steps := range int64(5) {
			want, ok := flowAfter(f, share, steps)
			wantFlow(t, named("RunFlow", f, share, steps), all(impl.RunFlow(f, share, steps)), want, ok)
			if _, before := flowAfter(f, share, 1); steps == 4 && before && !ok {
				failed++
			} else if ok {
				fine++
			}
		}
	}
	if failed == 0 || fine == 0 {
		t.Errorf("RunFlow failed %d times behind the first step, and succeeded %d times", failed, fine)
	}
	l := &luck{449}
	for kind := range int64(wallKinds) {
		f := l.flow(4, 5, kind)
		want, ok := flowAfter(f, 0.8, 256)
		wantFlow(t, named("RunFlow", f), all(impl.RunFlow(f, 0.8, 256)), want, ok)
		wantLimits(t, named("RunFlow", f), 0, 256, func(n int64) []any { return all(impl.RunFlow(f, 0.8, n)) })
	}
}

// Promise 7: mass is kept, nearly, and even flows stay as they are, nearly.
func TestFlowsKeep(t *testing.T) {
	l := &luck{457}
	for _, s := range sides() {
		for kind := range int64(wallKinds) {
			f := l.flow(s[0], s[1], kind)
			before, _ := impl.MassOf(f)
			for _, share := range []float32{0, 0.5, 1, 1.5} {
				relaxed, _ := impl.RelaxFlow(f, share)
				streamed, _ := impl.StreamFlow(f)
				ran, ok := impl.RunFlow(f, share, 10)
				wantBool(t, named("RunFlow", f, share), ok, true)
				for _, next := range []impl.Flow{relaxed, streamed, ran} {
					mass, _ := impl.MassOf(next)
					if math.Abs(float64(mass-before)) > 1e-5*float64(before) {
						t.Errorf("%v by %v: the mass was %v and is %v", f, share, before, mass)
					}
				}
			}
		}
		for _, speeds := range [][2]float32{{0, 0}, {0.1, 0}, {0, -0.1}, {0.05, 0.15}} {
			f, _ := impl.EvenFlow(s[0], s[1], 1.25, speeds[0], speeds[1])
			for _, share := range []float32{0, 0.5, 1, 1.5} {
				ran, _ := impl.RunFlow(f, share, 20)
				for i, x := range ran.Parts {
					if math.Abs(float64(x-f.Parts[i])) > 1e-5 {
						t.Fatalf("an even flow of %v by %v: the part %d was %v and is %v", speeds, share, i, f.Parts[i], x)
					}
				}
			}
		}
	}
}

// The second example of the document, and what its cells have.
func TestEvenFlowStays(t *testing.T) {
	f, _ := impl.EvenFlow(3, 4, 1, 0, 0)
	for steps := range int64(20) {
		ran, ok := impl.RunFlow(f, 1, steps)
		m, u, v, fine := impl.CellOfFlow(ran, 2, 3)
		if !ok || !fine || math.Abs(float64(m)-1) > 1e-5 || math.Abs(float64(u)) > 1e-5 || math.Abs(float64(v)) > 1e-5 {
			t.Errorf("an even flow behind %d steps: got %v, %v, %v", steps, m, u, v)
		}
	}
}

func TestFlowsShared(t *testing.T) {
	l := &luck{461}
	for size := range 11 {
		var list []impl.Flow
		var want []float32
		for range size {
			f := l.flow(1+l.below(16), 1+l.below(16), l.below(wallKinds))
			ran, _ := flowAfter(f, 0.7, 3)
			mass, _ := massOf(ran)
			list, want = append(list, f), append(want, mass)
		}
		for workers := int64(1); workers <= impl.MaxWorkers; workers++ {
			got := all(impl.FlowsShared(list, 0.7, 3, workers))
			if size < 1 || size > 8 {
				wantNone(t, named("FlowsShared of so many flows", size), got)
			} else {
				wantOnly(t, named("FlowsShared", size, workers), got, want)
			}
		}
	}
	f := evenOf(1, 2, calmOf(1, 0, 0))
	wantLimits(t, "FlowsShared with workers", 1, impl.MaxWorkers, func(n int64) []any { return all(impl.FlowsShared([]impl.Flow{f, f}, 1, 2, n)) })
	wantLimits(t, "FlowsShared with steps", 0, 256, func(n int64) []any { return all(impl.FlowsShared([]impl.Flow{f, f}, 1, n, 2)) })
	wantEnded(t, func() {
		impl.FlowsShared(many(f, 8), 1, 3, impl.MaxWorkers)
		impl.FlowsShared([]impl.Flow{f, {}, f}, 1, 3, impl.MaxWorkers)
		impl.FlowsShared(many(f, 8), 3, 3, impl.MaxWorkers)
		impl.FlowsShared(nil, 1, 3, impl.MaxWorkers)
	})
}

// One flow that fails makes all fail, wherever it stands.
func TestFlowsThatFail(t *testing.T) {
	f := evenOf(1, 2, calmOf(1, 0, 0))
	bad := append(badFlows(), evenOf(1, 1, make([]float32, 9)), evenOf(1, 1, many(float32(-1), 9)), evenOf(1, 1, many(float32(3e38), 9)))
	for at := range 8 {
		for _, g := range bad {
			list := many(f, 8)
			list[at] = g
			for _, workers := range []int64{1, 3, impl.MaxWorkers} {
				wantNone(t, named("FlowsShared of one that fails", g), all(impl.FlowsShared(list, 1, 1, workers)))
			}
		}
	}
	// Without steps, a flow without mass has the mass 0.
	wantOnly(t, "FlowsShared without steps", all(impl.FlowsShared([]impl.Flow{f, evenOf(1, 1, make([]float32, 9))}, 1, 0, 2)), []float32{massOfCells(f), 0})
	wantNone(t, "FlowsShared of too great a mass", all(impl.FlowsShared([]impl.Flow{f, evenOf(1, 1, many(float32(3e38), 9))}, 1, 0, 2)))
}

// massOfCells returns the mass of a flow that has one.
func massOfCells(f impl.Flow) float32 {
	mass, _ := massOf(f)
	return mass
}
