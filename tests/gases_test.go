package tests

import (
	"testing"

	"loop.example/g01381/impl"
)

func TestLimitsOfGases(t *testing.T) {
	wantAll(t, "the limits of chapter 6", all(impl.MaxSide, impl.MaxLane, impl.MaxSpeed, true), 16, 64, 5)
}

// wantGas checks a call that succeeds with a gas.
func wantGas(t *testing.T, what string, results []any, want impl.Gas) {
	t.Helper()
	wantOnly(t, what, results, want)
	if g, ok := results[0].(impl.Gas); !ok || !impl.ValidGas(g) {
		t.Errorf("%s: not valid: %v", what, results)
	}
}

// The first example of the document.
func TestGasThatMeets(t *testing.T) {
	g := evenGas(4, 1, 1, cellWith("13"))
	wantGas(t, "the example", all(impl.CollideGas(g, false)), evenGas(4, 1, 1, cellWith("02")))
	// They come from both sides, and go on by the other ways.
	g = impl.Gas{Ways: 4, Rows: 3, Columns: 3, Cells: []int64{0, 0, 0, 2, 0, 8, 0, 0, 0}, Walls: make([]bool, 9)}
	wantGas(t, "two steps", all(impl.RunGas(g, 2)), withGasCells(g, []int64{0, 1, 0, 0, 0, 0, 0, 4, 0}))
}

func TestValidGas(t *testing.T) {
	for _, g := range drawnGases(311) {
		wantBool(t, named("ValidGas", g), impl.ValidGas(g), true)
	}
	for _, g := range badGases() {
		wantBool(t, named("ValidGas", g), impl.ValidGas(g), false)
	}
	for ways := int64(-2); ways < 70; ways++ {
		for _, cell := range []int64{0, 1, 15, 16, 63, 64} {
			fits := ways == 4 && cell < 16 || ways == 6 && cell < 64
			wantBool(t, named("ValidGas of ways and cells", ways, cell), impl.ValidGas(evenGas(ways, 1, 2, cell)), fits)
		}
	}
	for _, ways := range []int64{4, 6} {
		for at := range 6 {
			for cell := int64(-2); cell < 70; cell++ {
				g := evenGas(ways, 2, 3, 0)
				g.Cells[at] = cell
				wantBool(t, named("ValidGas of one cell", g), impl.ValidGas(g), cell >= 0 && cell < toThe(2, ways))
			}
		}
	}
	for rows := int64(-1); rows < 19; rows++ {
		for columns := int64(-1); columns < 19; columns++ {
			g := impl.Gas{Ways: 6, Rows: rows, Columns: columns, Cells: make([]int64, max(rows*columns, 0)), Walls: make([]bool, max(rows*columns, 0))}
			wantBool(t, named("ValidGas of sides", rows, columns), impl.ValidGas(g), rows >= 1 && rows <= 16 && columns >= 1 && columns <= 16)
		}
	}
}

func TestSameGas(t *testing.T) {
	gases := append(drawnGases(313), badGases()...)
	texts := make([]string, len(gases))
	for i, g := range gases {
		texts[i] = shown(g)
	}
	for i, a := range gases {
		for k, b := range gases {
			if impl.SameGas(a, b) != (texts[i] == texts[k]) {
				t.Errorf("SameGas of %v and %v: got %v", a, b, impl.SameGas(a, b))
			}
		}
	}
	g := impl.Gas{Ways: 4, Rows: 1, Columns: 2, Cells: []int64{1, 2}, Walls: []bool{true, false}}
	for _, other := range []impl.Gas{
		{Ways: 6, Rows: 1, Columns: 2, Cells: []int64{1, 2}, Walls: []bool{true, false}},
		{Ways: 4, Rows: 2, Columns: 2, Cells: []int64{1, 2}, Walls: []bool{true, false}},
		{Ways: 4, Rows: 2, Columns: 1, Cells: []int64{1, 2}, Walls: []bool{true, false}},
		{Ways: 4, Rows: 1, Columns: 1, Cells: []int64{1, 2}, Walls: []bool{true, false}},
		{Ways: 4, Rows: 1, Columns: 2, Cells: []int64{1, 3}, Walls: []bool{true, false}},
		{Ways: 4, Rows: 1, Columns: 2, Cells: []int64{1}, Walls: []bool{true, false}},
		{Ways: 4, Rows: 1, Columns: 2, Cells: []int64{1, 2, 0}, Walls: []bool{true, false}},
		{Ways: 4, Rows: 1, Columns: 2, Cells: []int64{1, 2}, Walls: []bool{true, true}},
		{Ways: 4, Rows: 1, Columns: 2, Cells: []int64{1, 2}, Walls: []bool{true}},
		{Ways: 4, Rows: 1, Columns: 2, Cells: []int64{1, 2}, Walls: []bool{true, false, false}},
		{},
	} {
		wantBool(t, named("SameGas", g, other), impl.SameGas(g, other) || impl.SameGas(other, g), false)
	}
	wantBool(t, "SameGas of empty lists", impl.SameGas(impl.Gas{Ways: 9}, impl.Gas{Ways: 9, Cells: []int64{}, Walls: []bool{}}), true)
}

// All cells there are, with and without a wall.
func TestCollideGas(t *testing.T) {
	for _, ways := range []int64{4, 6} {
		for cell := range toThe(2, ways) {
			for _, wall := range []bool{false, true} {
				for _, left := range []bool{false, true} {
					g := evenGas(ways, 1, 1, cell)
					g.Walls[0] = wall
					wantGas(t, named("CollideGas", g, left), all(impl.CollideGas(g, left)), collideOf(g, left))
				}
			}
		}
	}
	for _, g := range drawnGases(317) {
		for _, left := range []bool{false, true} {
			wantGas(t, named("CollideGas", g, left), all(impl.CollideGas(g, left)), collideOf(g, left))
		}
	}
	for _, c := range []struct {
		ways        int64
		cell        string
		left, right string
	}{
		{4, "02", "13", "13"}, {4, "13", "02", "02"}, {4, "01", "01", "01"}, {4, "12", "12", "12"}, {4, "03", "03", "03"},
		{4, "012", "012", "012"}, {4, "023", "023", "023"}, {4, "0123", "0123", "0123"}, {4, "3", "3", "3"},
		{6, "03", "14", "25"}, {6, "14", "25", "03"}, {6, "25", "03", "14"}, {6, "024", "135", "135"}, {6, "135", "024", "024"},
		{6, "02", "02", "02"}, {6, "05", "05", "05"}, {6, "034", "034", "034"}, {6, "012", "012", "012"}, {6, "023", "023", "023"},
		{6, "0134", "0134", "0134"}, {6, "0245", "0245", "0245"}, {6, "012345", "012345", "012345"}, {6, "", "", ""},
	} {
		g := evenGas(c.ways, 1, 1, cellWith(c.cell))
		wantGas(t, named("CollideGas to the left", c), all(impl.CollideGas(g, true)), evenGas(c.ways, 1, 1, cellWith(c.left)))
		wantGas(t, named("CollideGas to the right", c), all(impl.CollideGas(g, false)), evenGas(c.ways, 1, 1, cellWith(c.right)))
	}
}

// What one side of collisions makes, the other one makes undone.
func TestCollideGasBack(t *testing.T) {
	for _, g := range drawnGases(331) {
		for _, left := range []bool{false, true} {
			there, _ := impl.CollideGas(g, left)
			wantGas(t, named("CollideGas and back", g), all(impl.CollideGas(there, !left)), g)
		}
	}
}

// A particle goes over each border and corner, each way, and comes back.
func TestStreamGas(t *testing.T) {
	for _, g := range drawnGases(337) {
		wantGas(t, named("StreamGas", g), all(impl.StreamGas(g)), streamOf(g))
	}
	for _, ways := range []int64{4, 6} {
		for way, by := range stepsOfWays(ways) {
			for _, s := range sides() {
				g := evenGas(ways, s[0], s[1], 0)
				for at := range g.Cells {
					if at > 9 && at < len(g.Cells)-9 {
						continue
					}
					one, next := make([]int64, len(g.Cells)), make([]int64, len(g.Cells))
					one[at] = toThe(2, int64(way))
					row, column := around(int64(at)/s[1]+by[0], s[0]), around(int64(at)%s[1]+by[1], s[1])
					next[row*s[1]+column] = one[at]
					wantGas(t, named("StreamGas of one particle", ways, way, s, at), all(impl.StreamGas(withGasCells(g, one))), withGasCells(g, next))
				}
			}
		}
	}
	corner := impl.Gas{Ways: 6, Rows: 2, Columns: 3, Cells: []int64{0, 0, 2, 0, 0, 0}, Walls: []bool{true, true, true, true, true, true}}
	wantGas(t, "over a corner", all(impl.StreamGas(corner)), withGasCells(corner, []int64{0, 0, 0, 2, 0, 0}))
	corner = withGasCells(corner, []int64{0, 0, 0, 16, 0, 0})
	wantGas(t, "over the opposite corner", all(impl.StreamGas(corner)), withGasCells(corner, []int64{0, 0, 16, 0, 0, 0}))
}

func TestRunGas(t *testing.T) {
	for _, g := range drawnGases(347) {
		for steps := range int64(5) {
			wantGas(t, named("RunGas", g, steps), all(impl.RunGas(g, steps)), runGas(g, steps))
		}
	}
	l := &luck{349}
	for _, ways := range []int64{4, 6} {
		for kind := range int64(wallKinds) {
			g := l.gas(ways, 7, 6, kind)
			wantGas(t, named("RunGas", g), all(impl.RunGas(g, 512)), runGas(g, 512))
			wantLimits(t, named("RunGas", g), 0, 512, func(n int64) []any { return all(impl.RunGas(g, n)) })
		}
	}
	// The first step is to the left, the second one to the right.
	g := evenGas(6, 1, 1, cellWith("03"))
	wantGas(t, "one step", all(impl.RunGas(g, 1)), evenGas(6, 1, 1, cellWith("14")))
	wantGas(t, "two steps", all(impl.RunGas(g, 2)), g)
	wantGas(t, "three steps", all(impl.RunGas(g, 3)), evenGas(6, 1, 1, cellWith("14")))
}

// Particles between walls on the border go back and forth, and never out.
func TestWallsOnTheBorder(t *testing.T) {
	l := &luck{353}
	g := evenGas(4, 1, 5, 0)
	g.Walls[0], g.Walls[4], g.Cells[2] = true, true, cellWith("1")
	for step, want := range []string{"00100", "00010", "00001", "00030", "00300", "03000", "30000", "01000", "00100"} {
		cells := make([]int64, 5)
		for i := range want {
			cells[i] = []int64{0, 2, 4, 8}[digitAt(want, i)]
		}
		wantGas(t, named("a particle between walls", step), all(impl.RunGas(g, int64(step))), withGasCells(g, cells))
	}
	// Two columns of walls keep the particles between them, and those of the
	// other side apart, though it goes round and round.
	for _, ways := range []int64{4, 6} {
		g := l.gas(ways, 8, 9, 0)
		for at := range g.Cells {
			column := at % 9
			g.Walls[at] = column == 0 || column == 4
			if g.Walls[at] || column > 4 {
				g.Cells[at] = 0
			}
		}
		count := countOf(g)
		for step := range 100 {
			for at, cell := range g.Cells {
				if at%9 > 4 && cell != 0 {
					t.Fatalf("%d ways, step %d: particles have gone through a wall", ways, step)
				}
			}
			wantOnly(t, "CountGas between walls", all(impl.CountGas(g)), count)
			g, _ = impl.RunGas(g, 1)
		}
	}
}

func TestReverseGas(t *testing.T) {
	for _, g := range drawnGases(359) {
		wantGas(t, named("ReverseGas", g), all(impl.ReverseGas(g)), reverseOf(g))
		back, _ := impl.ReverseGas(g)
		wantGas(t, named("ReverseGas twice", g), all(impl.ReverseGas(back)), g)
		// Streaming leads back if all go the opposite ways.
		next, _ := impl.StreamGas(g)
		next, _ = impl.ReverseGas(next)
		next, _ = impl.StreamGas(next)
		wantBool(t, named("StreamGas back", g), impl.SameGas(next, back), true)
	}
}

func TestCountGas(t *testing.T) {
	for _, g := range drawnGases(367) {
		wantOnly(t, named("CountGas", g), all(impl.CountGas(g)), countOf(g))
		down, right := wayOf(g)
		wantAll(t, named("WayOfGas", g), all(impl.WayOfGas(g)), down, right)
	}
	for _, ways := range []int64{4, 6} {
		full := evenGas(ways, impl.MaxSide, impl.MaxSide, toThe(2, ways)-1)
		wantOnly(t, "CountGas of a full gas", all(impl.CountGas(full)), ways*256)
		wantAll(t, "WayOfGas of a full gas", all(impl.WayOfGas(full)), 0, 0)
		for way, by := range stepsOfWays(ways) {
			g := evenGas(ways, impl.MaxSide, impl.MaxSide, toThe(2, int64(way)))
			g.Walls[3] = true
			wantOnly(t, "CountGas of one way", all(impl.CountGas(g)), 256)
			wantAll(t, "WayOfGas of one way", all(impl.WayOfGas(g)), 256*by[0], 256*by[1])
		}
	}
}

// Promise 7: the number of particles is kept, and their way, without walls.
func TestGasesKeep(t *testing.T) {
	for _, g := range drawnGases(373) {
		count := countOf(g)
		down, right := wayOf(g)
		isFree := shown(g.Walls) == shown(make([]bool, len(g.Walls)))
		for steps := range int64(12) {
			now, _ := impl.RunGas(g, steps)
			collided, _ := impl.CollideGas(now, steps%3 == 0)
			streamed, _ := impl.StreamGas(now)
			for _, next := range []impl.Gas{now, collided, streamed} {
				wantOnly(t, named("CountGas kept", g, steps), all(impl.CountGas(next)), count)
				if isFree {
					wantAll(t, named("WayOfGas kept", g, steps), all(impl.WayOfGas(next)), down, right)
				}
			}
		}
	}
}

func TestDenseBlocks(t *testing.T) {
	for _, g := range drawnGases(379) {
		for rows := int64(-2); rows <= g.Rows+2; rows++ {
			for columns := int64(-2); columns <= g.Columns+2; columns++ {
				got := all(impl.DenseBlocks(g, rows, columns))
				if rows < 1 || columns < 1 || g.Rows%rows != 0 || g.Columns%columns != 0 {
					wantNone(t, named("DenseBlocks", g, rows, columns), got)
					continue
				}
				var counts []int64
				for row := int64(0); row < g.Rows; row += rows {
					for column := int64(0); column < g.Columns; column += columns {
						var count int
						for i := range rows {
							for k := range columns {
								count += len(waysIn(g.Cells[(row+i)*g.Columns+column+k]))
							}
						}
						counts = append(counts, int64(count))
					}
				}
				wantOnly(t, named("DenseBlocks", g, rows, columns), got, counts)
			}
		}
		for _, n := range ends() {
			wantNone(t, "DenseBlocks far", all(impl.DenseBlocks(g, n, 1)))
			wantNone(t, "DenseBlocks far", all(impl.DenseBlocks(g, 1, n)))
			wantNone(t, "DenseBlocks far", all(impl.DenseBlocks(g, n, n)))
		}
	}
	g := impl.Gas{Ways: 4, Rows: 2, Columns: 4, Cells: []int64{1, 3, 7, 15, 0, 8, 9, 5}, Walls: make([]bool, 8)}
	wantOnly(t, "all cells", all(impl.DenseBlocks(g, 1, 1)), []int64{1, 2, 3, 4, 0, 1, 2, 2})
	wantOnly(t, "rows", all(impl.DenseBlocks(g, 1, 4)), []int64{10, 5})
	wantOnly(t, "columns", all(impl.DenseBlocks(g, 2, 1)), []int64{1, 3, 5, 6})
	wantOnly(t, "two blocks", all(impl.DenseBlocks(g, 2, 2)), []int64{4, 11})
	wantOnly(t, "one block", all(impl.DenseBlocks(g, 2, 4)), []int64{15})
}
