package tests

import (
	"fmt"
	"maps"
	"slices"
	"testing"

	"loop.example/g01381/impl"
)

// rulesForCycles returns rules of all kinds.
func rulesForCycles(t *testing.T) []impl.Rule {
	rules := append(drawnRules(3), permutedRules(2)...)
	for _, n := range []int64{0, 30, 45, 54, 90, 106, 110, 128, 150, 170, 184, 232, 255} {
		rules = append(rules, ruleNumber(t, n))
	}
	return rules
}

func TestGardensAndImages(t *testing.T) {
	for _, r := range rulesForCycles(t) {
		for n := widthOf(r); n <= map[int64]int64{2: 9, 3: 6}[r.States]; n++ {
			images := int64(len(ringsBefore(t, r, n)))
			wantOnly(t, "ImagesOf", all(impl.ImagesOf(r, n)), images)
			wantOnly(t, "GardensOf", all(impl.GardensOf(r, n)), toThe(r.States, n)-images)
		}
	}
}

// A ring is a garden if no ring is counted that leads to it.
func TestGardensAreCounted(t *testing.T) {
	for _, r := range drawnRules(2) {
		n := widthOf(r)
		var gardens int64
		for _, s := range textsOf(r.States, n) {
			if count, ok := impl.CountBack(r, cellsOf(s)); ok && count == 0 {
				gardens++
			}
		}
		wantOnly(t, "GardensOf", all(impl.GardensOf(r, n)), gardens)
	}
}

// cyclesOf asks each ring when it comes again.
func cyclesOf(t *testing.T, r impl.Rule, n int64) (cycles []int64, rings, depth int64) {
	t.Helper()
	often := map[int64]int64{}
	for _, s := range textsOf(r.States, n) {
		first, again, ok := impl.PeriodOf(r, cellsOf(s), 4096)
		if !ok {
			t.Fatalf("PeriodOf(%v, %s) failed", r, s)
		}
		if first == 0 {
			often[again]++
			rings++
		}
		depth = max(depth, first)
	}
	for _, long := range slices.Sorted(maps.Keys(often)) {
		cycles = append(cycles, long, often[long])
	}
	return cycles, rings, depth
}

func TestCyclesOf(t *testing.T) {
	for _, r := range rulesForCycles(t) {
		for n := widthOf(r); n <= map[int64]int64{2: 9, 3: 6}[r.States]; n++ {
			cycles, rings, depth := cyclesOf(t, r, n)
			got, in, ok := impl.CyclesOf(r, n)
			if !ok || !slices.Equal(got, cycles) || in != rings {
				t.Errorf("CyclesOf(%v, %d): got %v, %d, %v, want %v, %d", r, n, got, in, ok, cycles, rings)
			}
			wantOnly(t, "DepthOf", all(impl.DepthOf(r, n)), depth)
		}
	}
}

// Cycles hold whole numbers of rings, and behind the depth each ring is in one,
// for the longest rings, too.
func TestLongCycles(t *testing.T) {
	rules := append(drawnRules(1), ruleNumber(t, 30), ruleNumber(t, 110), ruleNumber(t, 90), ruleNumber(t, 54))
	for _, r := range rules {
		n := map[int64]int64{2: 12, 3: 8}[r.States]
		cycles, rings, ok := impl.CyclesOf(r, n)
		depth, fine := impl.DepthOf(r, n)
		gardens, _ := impl.GardensOf(r, n)
		images, _ := impl.ImagesOf(r, n)
		if !ok || !fine || len(cycles)%2 != 0 || gardens+images != toThe(r.States, n) || (depth == 0) != (gardens == 0) || rings > images {
			t.Fatalf("%v, %d: got %v, %d, %v, depth %d, %v, %d gardens, %d images", r, n, cycles, rings, ok, depth, fine, gardens, images)
		}
		var sum int64
		for i := 0; i < len(cycles); i += 2 {
			if long := cycles[i]; long < 1 || cycles[i+1] < 1 || cycles[i+1]%long != 0 || i > 0 && cycles[i-2] >= long {
				t.Errorf("%v, %d: got cycles %v", r, n, cycles)
			}
			sum += cycles[i+1]
		}
		if sum != rings {
			t.Errorf("%v, %d: got cycles %v, with %d rings", r, n, cycles, rings)
		}
		// Behind depth steps there are as many different rings as in cycles, and
		// behind one step less there are more.
		for steps, want := range map[int64]bool{depth: true, depth + 1: true, depth - 1: false} {
			if steps < 0 {
				continue
			}
			came := map[string]bool{}
			for _, s := range textsOf(r.States, n) {
				end, _ := impl.RunRing(r, cellsOf(s), steps)
				came[textOf(end)] = true
			}
			if (int64(len(came)) == rings) != want {
				t.Errorf("%v, %d: %d rings behind %d steps, %d in cycles, depth %d", r, n, len(came), steps, rings, depth)
			}
		}
	}
}

func TestKnownCycles(t *testing.T) {
	for _, c := range []struct {
		r      impl.Rule
		n      int64
		cycles []int64
		rings  int64
		depth  int64
	}{
		{ruleNumber(t, 204), 12, []int64{1, 4096}, 4096, 0},
		{ruleNumber(t, 51), 12, []int64{2, 4096}, 4096, 0},
		{ruleNumber(t, 0), 12, []int64{1, 1}, 1, 1},
		{ruleNumber(t, 170), 3, []int64{1, 2, 3, 6}, 8, 0},
		{ruleNumber(t, 240), 4, []int64{1, 2, 2, 2, 4, 12}, 16, 0},
		{ruleNumber(t, 90), 4, []int64{1, 1}, 1, 2},
		{ruleNumber(t, 128), 12, []int64{1, 2}, 2, 6},
		{ruleNumber(t, 128), 11, []int64{1, 2}, 2, 5},
		{impl.Rule{States: 3, Table: []int64{1, 2, 0}}, 8, []int64{3, 6561}, 6561, 0},
		{impl.Rule{States: 3, Table: []int64{0, 0, 1}}, 1, []int64{1, 1}, 1, 2},
		{impl.Rule{States: 2, Table: []int64{1, 0}}, 1, []int64{2, 2}, 2, 0},
		{impl.Rule{States: 3, Reach: 2, Table: make([]int64, 243)}, 8, []int64{1, 1}, 1, 1},
		{takes(3, 2, 0), 5, []int64{1, 3, 5, 240}, 243, 0},
	} {
		cycles, rings, ok := impl.CyclesOf(c.r, c.n)
		if !ok || !slices.Equal(cycles, c.cycles) || rings != c.rings {
			t.Errorf("CyclesOf(%v, %d): got %v, %d, %v, want %v, %d", c.r, c.n, cycles, rings, ok, c.cycles, c.rings)
		}
		wantOnly(t, fmt.Sprint("DepthOf ", c.r, c.n), all(impl.DepthOf(c.r, c.n)), c.depth)
	}
}

func TestCycleLimits(t *testing.T) {
	for _, r := range drawnRules(1) {
		most := map[int64]int64{2: 12, 3: 8}[r.States]
		wantLimits(t, "GardensOf", widthOf(r), most, func(n int64) []any { return all(impl.GardensOf(r, n)) })
		wantLimits(t, "ImagesOf", widthOf(r), most, func(n int64) []any { return all(impl.ImagesOf(r, n)) })
		wantLimits(t, "CyclesOf", widthOf(r), most, func(n int64) []any { return all(impl.CyclesOf(r, n)) })
		wantLimits(t, "DepthOf", widthOf(r), most, func(n int64) []any { return all(impl.DepthOf(r, n)) })
	}
}
