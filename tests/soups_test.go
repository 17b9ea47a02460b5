package tests

import (
	"testing"

	"loop.example/g01381/impl"
)

// soupOf returns what becomes of a drawn field, and the seed behind drawing it.
func soupOf(w impl.Life, side int64, share float32, seed, steps int64) (impl.Field, int64) {
	drawn, behind := drawField(side, side, share, seed)
	return runLife(w, drawn, true, steps), behind
}

// soupShares are shares with which few, many, no and all cells are 1.
func soupShares() []float32 { return []float32{0, num(minusZero), num(leastNumber), 0.1, 0.5, 0.8, 1} }

func TestSoupOf(t *testing.T) {
	l := &luck{269}
	for _, side := range []int64{1, 2, 3, 5, 8, 13, 23, 24} {
		for _, share := range soupShares() {
			for _, seed := range []int64{0, 1, 12345, 1 << 31, 1<<32 - 1} {
				w, steps := l.life(), l.below(5)
				if l.below(2) == 0 {
					w = conway()
				}
				soup, behind := soupOf(w, side, share, seed, steps)
				wantAll(t, named("SoupOf", w, side, share, seed, steps), all(impl.SoupOf(w, side, share, seed, steps)), append(censusOf(soup), behind)...)
			}
		}
	}
	soup, behind := soupOf(conway(), 20, 0.4, 5, 64)
	wantAll(t, "64 steps", all(impl.SoupOf(conway(), 20, 0.4, 5, 64)), append(censusOf(soup), behind)...)
	if onesIn(soup) == 0 {
		t.Error("nothing is left of the soup")
	}
	// The soup lives round and round, but its parts do not go round.
	wantAll(t, "all cells of 24 rows and columns", all(impl.SoupOf(impl.Life{Stay: []int64{8}}, 24, 1, 9, 64)), []string{nameOf(evenField(24, 24, 1))}, []int64{1}, lastSeed(24, 9))
}

// lastSeed returns the seed behind drawing a field with some sides.
func lastSeed(side, seed int64) int64 {
	_, behind := drawField(side, side, 0, seed)
	return behind
}

func TestSoupsShared(t *testing.T) {
	l := &luck{271}
	for size := range 18 {
		w, side, share, steps := l.life(), 1+l.below(impl.MaxField), soupShares()[l.below(7)], l.below(5)
		seeds, want := make([]int64, size), make([]int64, size)
		for i := range seeds {
			seeds[i] = l.below(1 << 31)
			soup, _ := soupOf(w, side, share, seeds[i], steps)
			want[i] = onesIn(soup)
		}
		for workers := int64(1); workers <= impl.MaxWorkers; workers++ {
			got := all(impl.SoupsShared(w, side, share, seeds, steps, workers))
			if size > 16 {
				wantNone(t, "SoupsShared of too many seeds", got)
			} else {
				wantOnly(t, named("SoupsShared", w, side, share, seeds, steps), got, want)
			}
		}
	}
	// The soups of each function are the same.
	for seed := range int64(12) {
		_, often, _, _ := impl.SoupOf(impl.Life{Stay: []int64{0}}, 9, 0.1, seed, 1)
		wantOnly(t, "as many cells as parts", all(impl.SoupsShared(impl.Life{Stay: []int64{0}}, 9, 0.1, []int64{seed}, 1, 2)), []int64{sumOf(often)})
	}
	wantOnly(t, "the least and the greatest seed", all(impl.SoupsShared(conway(), 2, 1, []int64{0, 1<<32 - 1, 0}, 0, 3)), []int64{4, 4, 4})
	wantEnded(t, func() {
		impl.SoupsShared(conway(), 9, 0.5, many(int64(7), 16), 5, impl.MaxWorkers)
		impl.SoupsShared(conway(), 9, 0.5, []int64{-1, 0, 1 << 32, 3}, 5, impl.MaxWorkers)
		impl.SoupsShared(conway(), 9, 2, []int64{1}, 5, impl.MaxWorkers)
	})
}

// One seed that is none makes all fail, wherever it stands.
func TestSoupsThatFail(t *testing.T) {
	for at := range 16 {
		for _, bad := range []int64{-1, 1 << 32, -1 << 63, 1<<63 - 1} {
			seeds := many(int64(5), 16)
			seeds[at] = bad
			for _, workers := range []int64{1, 3, impl.MaxWorkers} {
				wantNone(t, "SoupsShared of a bad seed", all(impl.SoupsShared(conway(), 3, 0.5, seeds, 1, workers)))
			}
		}
	}
}

// The limits hold for both functions, and for the second one without seeds, too.
func TestSoupLimits(t *testing.T) {
	for _, seeds := range [][]int64{nil, {}, {7}, {0, 1<<32 - 1}} {
		shared := func(w impl.Life, side int64, share float32, steps, workers int64) []any {
			return all(impl.SoupsShared(w, side, share, seeds, steps, workers))
		}
		wantLimits(t, "SoupsShared with sides", 1, impl.MaxField, func(n int64) []any { return shared(conway(), n, 0.5, 2, 2) })
		wantLimits(t, "SoupsShared with steps", 0, 64, func(n int64) []any { return shared(conway(), 3, 0.5, n, 2) })
		wantLimits(t, "SoupsShared with workers", 1, impl.MaxWorkers, func(n int64) []any { return shared(conway(), 3, 0.5, 2, n) })
		for _, x := range seldom() {
			if got := shared(conway(), 3, x, 2, 2); x >= 0 && x <= 1 {
				wantBool(t, named("SoupsShared with the share", x), succeeds(got), true)
			} else {
				wantNone(t, named("SoupsShared with the share", x), got)
			}
		}
		for _, w := range badLives() {
			wantNone(t, named("SoupsShared", w), shared(w, 3, 0.5, 2, 2))
		}
	}
	soup := func(side int64, share float32, seed, steps int64) []any {
		return all(impl.SoupOf(conway(), side, share, seed, steps))
	}
	wantLimits(t, "SoupOf with sides", 1, impl.MaxField, func(n int64) []any { return soup(n, 0.5, 7, 2) })
	wantLimits(t, "SoupOf with steps", 0, 64, func(n int64) []any { return soup(3, 0.5, 7, n) })
	wantLimits(t, "SoupOf with a seed", 0, 1<<32-1, func(n int64) []any { return soup(3, 0.5, n, 2) })
	wantLimits(t, "SoupsShared with a seed", 0, 1<<32-1, func(n int64) []any {
		return all(impl.SoupsShared(conway(), 3, 0.5, []int64{4, n}, 2, 2))
	})
	for _, x := range seldom() {
		wantBool(t, named("SoupOf with the share", x), succeeds(soup(3, x, 7, 2)), x >= 0 && x <= 1)
	}
	for _, bits := range []uint32{notANumber, 0xffc00000, 0x7f800001, infinity, minusEndless, 0x3f800001, 0x80000001} {
		wantNone(t, "SoupOf with another share", soup(3, num(bits), 7, 2))
	}
	for _, n := range ends() {
		wantNone(t, "SoupOf far", soup(n, 0.5, n, n))
	}
}
