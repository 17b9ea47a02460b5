package tests

import (
	"math"
	"testing"

	"loop.example/g01381/impl"
)

// spinOf returns a spin, round and round.
func spinOf(f impl.Field, row, column int64) int64 {
	if cellAt(f, row, column, true) == 1 {
		return 1
	}
	return -1
}

// energyOf returns the energy, told by pairs of cells.
func energyOf(f impl.Field) int64 {
	var energy int64
	for row := range f.Rows {
		for column := range f.Columns {
			for _, other := range []int64{spinOf(f, row, column+1), spinOf(f, row+1, column)} {
				if other == spinOf(f, row, column) {
					energy--
				} else {
					energy++
				}
			}
		}
	}
	return energy
}

// around4 returns 2 times a spin times the sum of those of its neighbours.
func around4(f impl.Field, row, column int64) int64 {
	return 2 * spinOf(f, row, column) * (spinOf(f, row-1, column) + spinOf(f, row, column+1) + spinOf(f, row+1, column) + spinOf(f, row, column-1))
}

// sweep returns what SpinSweep does of what is valid.
func sweep(f impl.Field, cold float32, seed int64) (impl.Field, int64) {
	f = fieldThat(f.Rows, f.Columns, func(row, column int64) int64 { return cellAt(f, row, column, false) })
	now := uint32(seed)
	for row := range f.Rows {
		for column := range f.Columns {
			d := around4(f, row, column)
			now = now*1664525 + 1013904223
			power := impl.ExpNumber(less(0, times(cold, float32(d))))
			if d <= 0 || float64(now>>8) < float64(power)*(1<<24) {
				f.Cells[row*f.Columns+column] = 1 - f.Cells[row*f.Columns+column]
			}
		}
	}
	return f, int64(now)
}

// spinFields returns plain fields that are drawn, that are all alike, and that
// are chequered.
func spinFields(seed uint64) []impl.Field {
	fields := drawnFields(seed, 1)
	for _, s := range extents() {
		fields = append(fields, chess(s[0], s[1]))
	}
	return fields
}

func TestEnergyOf(t *testing.T) {
	for _, f := range spinFields(601) {
		wantOnly(t, named("EnergyOf", f), all(impl.EnergyOf(f)), energyOf(f))
	}
	for _, s := range extents() {
		for state := range int64(2) {
			wantOnly(t, named("EnergyOf of what is alike", s), all(impl.EnergyOf(evenField(s[0], s[1], state))), -2*s[0]*s[1])
		}
		if s[0]%2 == 0 && s[1]%2 == 0 {
			wantOnly(t, named("EnergyOf of chequers", s), all(impl.EnergyOf(chess(s[0], s[1]))), 2*s[0]*s[1])
		}
	}
	wantOnly(t, "one row", all(impl.EnergyOf(fieldOf("10"))), 0)
	wantOnly(t, "one column", all(impl.EnergyOf(fieldOf("1", "0", "0"))), -2)
	wantOnly(t, "one other cell", all(impl.EnergyOf(fieldOf("000", "010", "000"))), -18+8)
	for _, f := range notPlain() {
		wantNone(t, named("EnergyOf", f), all(impl.EnergyOf(f)))
	}
}

// colds are numbers that are finite and at least 0.
func colds() []float32 {
	return []float32{0, num(minusZero), num(leastNumber), 0.01, 0.1, 0.3, 0.44, 1, 5, 100, 1e30, num(mostNumber)}
}

func TestSpinSweep(t *testing.T) {
	l := &luck{607}
	for _, f := range spinFields(613) {
		for _, cold := range colds() {
			for _, seed := range []int64{0, l.below(1<<31) * 2, 1<<32 - 1} {
				next, behind := sweep(f, cold, seed)
				wantAll(t, named("SpinSweep", f, cold, seed), all(impl.SpinSweep(f, cold, seed)), next, behind)
			}
		}
	}
	wantAll(t, "one cell that is cold", all(impl.SpinSweep(fieldOf("1"), 1000, 0)), fieldOf("1"), 1013904223)
	wantAll(t, "one cell that is hot", all(impl.SpinSweep(fieldOf("1"), 0, 0)), fieldOf("0"), 1013904223)
	wantAll(t, "a chequered field that is cold", all(impl.SpinSweep(fieldOf("10", "01"), 1000, 5)), fieldOf("01", "11"), lastSeed(2, 5))
	wantAll(t, "what is alike and as cold as can be", all(impl.SpinSweep(evenField(24, 24, 1), num(mostNumber), 5)), evenField(24, 24, 1), lastSeed(24, 5))
	// Without cold, all change, one after another.
	for _, f := range spinFields(617) {
		opposite := fieldThat(f.Rows, f.Columns, func(row, column int64) int64 { return 1 - cellAt(f, row, column, false) })
		for _, cold := range []float32{0, num(minusZero)} {
			next, _, ok := impl.SpinSweep(f, cold, 1)
			wantBool(t, "SpinSweep that is hot", ok, true)
			wantField(t, "SpinSweep that is hot", next, opposite)
		}
	}
}

// A share is less than the power of e just below it, and not if it is at least
// as great.
func TestSharesOfSpins(t *testing.T) {
	// The neighbours of one cell are itself four times.
	for _, c := range []struct {
		f impl.Field
		d float32
	}{{fieldOf("1"), 8}, {fieldOf("0"), 8}, {fieldOf("110", "100", "100"), 4}, {fieldOf("010", "000", "000"), 4}} {
		if around4(c.f, 0, 0) != int64(c.d) {
			t.Fatalf("%v has %d, want %v", c.f, around4(c.f, 0, 0), c.d)
		}
		for _, cold := range []float32{0.01, 0.1, 0.3, 0.5, 1, 1.5} {
			power := float64(impl.ExpNumber(-c.d*cold)) * (1 << 24)
			k := uint32(math.Ceil(power))
			stays, _, _ := impl.SpinSweep(c.f, cold, seedBefore(k<<8))
			turns, _, _ := impl.SpinSweep(c.f, cold, seedBefore((k-1)<<8|255))
			wantBool(t, named("a share that is too great", c.f, cold), stays.Cells[0] == c.f.Cells[0], true)
			wantBool(t, named("a share that is less", c.f, cold), turns.Cells[0] == c.f.Cells[0], false)
		}
	}
}

// Spins become colder, and their energy less, if they are cold.
func TestColdSpins(t *testing.T) {
	f, seed, _ := impl.DrawField(24, 24, 0.5, 3)
	energy, _ := impl.EnergyOf(f)
	for range 20 {
		f, seed, _ = impl.SpinSweep(f, 1000, seed)
		next, _ := impl.EnergyOf(f)
		if next > energy {
			t.Errorf("the energy was %d and is %d", energy, next)
		}
		energy = next
	}
	if energy > -24*24 {
		t.Errorf("the energy is still %d", energy)
	}
}

func TestSpinSweepLimits(t *testing.T) {
	for _, f := range notPlain() {
		wantNone(t, named("SpinSweep", f), all(impl.SpinSweep(f, 0.5, 7)))
	}
	for _, x := range append(seldom(), -0.5, num(0x80000001)) {
		if got := all(impl.SpinSweep(fieldOf("10"), x, 7)); isFinite(x) && x >= 0 {
			wantBool(t, named("SpinSweep with cold", x), succeeds(got), true)
		} else {
			wantNone(t, named("SpinSweep with cold", x), got)
		}
	}
	wantLimits(t, "SpinSweep with a seed", 0, 1<<32-1, func(n int64) []any { return all(impl.SpinSweep(fieldOf("10"), 0.5, n)) })
}
