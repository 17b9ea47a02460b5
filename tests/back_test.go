package tests

import (
	"slices"
	"testing"

	"loop.example/g01381/impl"
)

func TestBackExamples(t *testing.T) {
	left := ruleNumber(t, 240)
	wantOnly(t, "the rule that takes the left cell is onto", all(impl.IsOnto(left)), true)
	wantOnly(t, "it is one to one", all(impl.IsOneToOne(left)), true)
	wantOnly(t, "it keeps the sum", all(impl.KeepsSum(left)), true)
	wantOnly(t, "it adds", all(impl.IsAdding(left)), true)
	ninety, zeros := ruleNumber(t, 90), []int64{0, 0, 0}
	wantOnly(t, "rings that lead to 0 0 0", all(impl.CountBack(ninety, zeros)), int64(2))
	wantOnly(t, "rings that lead to 0 0 0", all(impl.AllBack(ninety, zeros)), [][]int64{{0, 0, 0}, {1, 1, 1}})
	wantOnly(t, "the orphan of the rule 0", all(impl.OrphanOf(ruleNumber(t, 0), 1)), []int64{1})
}

func TestBackConstants(t *testing.T) {
	if impl.MaxBack != 16 || impl.MaxWord != 12 {
		t.Errorf("MaxBack: got %d, MaxWord: got %d", impl.MaxBack, impl.MaxWord)
	}
}

func TestPairTable(t *testing.T) {
	for _, r := range append(drawnRules(4), permutedRules(2)...) {
		ends := textsOf(r.States, 2*r.Reach)
		for to := range r.States {
			var want []int64
			for _, a := range ends {
				for _, b := range ends {
					var n int64
					for _, s := range neighbourhoods(r.States, r.Reach) {
						if s[:len(s)-1] == a && s[1:] == b && told(t, r, s) == to {
							n++
						}
					}
					want = append(want, n)
				}
			}
			wantOnly(t, "PairTable", all(impl.PairTable(r, to)), want)
			if len(ends) > 20 {
				break
			}
		}
		wantLimits(t, "PairTable", 0, r.States-1, func(n int64) []any { return all(impl.PairTable(r, n)) })
	}
}

// All tables of ends together have each neighbourhood once.
func TestPairTables(t *testing.T) {
	for _, r := range drawnRules(3) {
		ends := toThe(r.States, 2*r.Reach)
		sums := make([]int64, ends*ends)
		for to := range r.States {
			table, _ := impl.PairTable(r, to)
			for i, n := range table {
				sums[i] += n
			}
		}
		want := make([]int64, ends*ends)
		for i := range int64(len(r.Table)) {
			want[i/r.States*ends+i%ends]++
		}
		wantOnly(t, "all tables of ends", []any{sums, true}, want)
	}
}

// Promise 4: rings that lead to a ring are all there are, in order, and as many
// as are counted.
func TestRingsBack(t *testing.T) {
	rules := append(drawnRules(3), permutedRules(2)...)
	for _, n := range []int64{0, 18, 30, 51, 90, 110, 128, 150, 170, 184, 204, 232, 255} {
		rules = append(rules, ruleNumber(t, n))
	}
	for _, r := range rules {
		most := map[int64]int64{2: 8, 3: 5}[r.States]
		for n := widthOf(r); n <= most; n++ {
			before := ringsBefore(t, r, n)
			for _, s := range textsOf(r.States, n) {
				wantRingsBack(t, r, cellsOf(s), before[s])
			}
		}
	}
}

// wantRingsBack checks which rings lead to a ring.
func wantRingsBack(t *testing.T, r impl.Rule, ring []int64, before []string) {
	t.Helper()
	wantOnly(t, "CountBack", all(impl.CountBack(r, ring)), int64(len(before)))
	if len(before) > 256 {
		wantNone(t, "AllBack of many", all(impl.AllBack(r, ring)))
	} else {
		rings := [][]int64{}
		for _, s := range before {
			rings = append(rings, cellsOf(s))
		}
		wantOnly(t, "AllBack", all(impl.AllBack(r, ring)), rings)
	}
	if len(before) == 0 {
		wantNone(t, "FirstBack of none", all(impl.FirstBack(r, ring)))
	} else {
		wantOnly(t, "FirstBack", all(impl.FirstBack(r, ring)), cellsOf(before[0]))
	}
}

// Rings of MaxBack cells, against all of them that there are.
func TestAllLongRingsBack(t *testing.T) {
	l := &luck{47}
	for _, r := range []impl.Rule{ruleNumber(t, 110), ruleNumber(t, 90), l.rule(2, 2), l.permuted(2, 2, true), l.rule(2, 0)} {
		ring := nextOf(t, r, l.states(impl.MaxBack, 2))
		var before []string
		for i := range int64(1) << impl.MaxBack {
			back := make([]int64, impl.MaxBack)
			for k := range back {
				back[k] = i >> (impl.MaxBack - 1 - k) & 1
			}
			if slices.Equal(nextOf(t, r, back), ring) {
				before = append(before, textOf(back))
			}
		}
		wantRingsBack(t, r, ring, before)
	}
}

// Rings of MaxBack cells of all kinds of rules: all that lead to one do so, in
// order, and the one from which it came is among them.
func TestLongRingsBack(t *testing.T) {
	l := &luck{53}
	for _, r := range append(drawnRules(5), permutedRules(4)...) {
		from := l.states(impl.MaxBack, r.States)
		ring := nextOf(t, r, from)
		count, ok := impl.CountBack(r, ring)
		first, fine := impl.FirstBack(r, ring)
		if !ok || !fine || count < 1 || slices.Compare(first, from) > 0 || !slices.Equal(nextOf(t, r, first), ring) {
			t.Errorf("rule %v, ring %v: got %d, %v, %v, %v", r, ring, count, ok, first, fine)
		}
		rings, got := impl.AllBack(r, ring)
		if got != (count <= 256) {
			t.Errorf("rule %v, ring %v: AllBack of %d: got %v", r, ring, count, got)
			continue
		}
		if !got {
			wantNone(t, "AllBack of many", all(rings, got))
			continue
		}
		if int64(len(rings)) != count || !slices.Equal(rings[0], first) || !slices.ContainsFunc(rings, func(x []int64) bool { return slices.Equal(x, from) }) {
			t.Errorf("rule %v, ring %v: AllBack of %d: got %v", r, ring, count, rings)
		}
		for i, back := range rings {
			if i > 0 && slices.Compare(rings[i-1], back) >= 0 || !slices.Equal(nextOf(t, r, back), ring) {
				t.Errorf("rule %v, ring %v: %v stands or leads elsewhere", r, ring, back)
			}
		}
	}
}

// Rules that tell one state lead there from all rings, and from nowhere else.
func TestRingsOfOneState(t *testing.T) {
	for states := int64(2); states <= 3; states++ {
		for reach := int64(0); reach <= impl.MaxReach; reach++ {
			r := impl.Rule{States: states, Reach: reach, Table: many(states-1, int(toThe(states, 2*reach+1)))}
			for n := widthOf(r); n <= impl.MaxBack; n++ {
				ring := many(states-1, int(n))
				wantOnly(t, "CountBack of all", all(impl.CountBack(r, ring)), toThe(states, n))
				wantOnly(t, "FirstBack of all", all(impl.FirstBack(r, ring)), many(int64(0), int(n)))
				ring[n/2] = 0
				wantOnly(t, "CountBack of none", all(impl.CountBack(r, ring)), int64(0))
				wantNone(t, "FirstBack of none", all(impl.FirstBack(r, ring)))
				wantOnly(t, "AllBack of none", all(impl.AllBack(r, ring)), [][]int64{})
			}
		}
	}
}

// Just 256 rings can be told, and one more cannot.
func TestMostBacks(t *testing.T) {
	zero := ruleNumber(t, 0)
	rings := [][]int64{}
	for _, s := range textsOf(2, 8) {
		rings = append(rings, cellsOf(s))
	}
	wantOnly(t, "256 rings", all(impl.AllBack(zero, many(int64(0), 8))), rings)
	wantNone(t, "512 rings", all(impl.AllBack(zero, many(int64(0), 9))))
	two := ruleTold(2, 2, func(cells string) int64 { return map[string]int64{"00101": 1, "01101": 1}[cells] })
	three := impl.Rule{States: 3, Reach: 1, Table: cellsOf("001000000000022000000020010")}
	for _, r := range []impl.Rule{two, three} {
		ring := many(int64(0), map[int64]int{2: 9, 3: 6}[r.States])
		wantOnly(t, "257 rings", all(impl.CountBack(r, ring)), int64(257))
		wantNone(t, "257 rings", all(impl.AllBack(r, ring)))
		wantOnly(t, "257 rings, the first one", all(impl.FirstBack(r, ring)), ring)
	}
	many := impl.Rule{States: 3, Reach: 1, Table: cellsOf("200000011201101000012100100")}
	ten := make([]int64, 10)
	wantOnly(t, "256 rings of 3 states", all(impl.CountBack(many, ten)), int64(256))
	got, ok := impl.AllBack(many, ten)
	if !ok || len(got) != 256 || slices.ContainsFunc(got, func(x []int64) bool { return !slices.Equal(nextOf(t, many, x), ten) }) || !slices.IsSortedFunc(got, slices.Compare) {
		t.Errorf("256 rings of 3 states: got %v, %v", got, ok)
	}
}

// Rings of as many cells as a neighbourhood, and of MaxBack, but not of others.
func TestBackLimits(t *testing.T) {
	for _, r := range drawnRules(2) {
		r.Table[0] = 0
		for name, call := range map[string]func(ring []int64) []any{
			"CountBack":    func(ring []int64) []any { return all(impl.CountBack(r, ring)) },
			"FirstBack":    func(ring []int64) []any { return all(impl.FirstBack(r, ring)) },
			"CountsShared": func(ring []int64) []any { return all(impl.CountsShared(r, [][]int64{ring, ring}, 2)) },
		} {
			wantLimits(t, name, widthOf(r), impl.MaxBack, func(n int64) []any { return call(wideRing(n)) })
		}
		still := takes(r.States, r.Reach, 0)
		wantLimits(t, "AllBack", widthOf(r), impl.MaxBack, func(n int64) []any { return all(impl.AllBack(still, wideRing(n))) })
	}
}

func TestCountsShared(t *testing.T) {
	l := &luck{59}
	for _, r := range append(drawnRules(2), permutedRules(1)...) {
		for size := 0; size <= 16; size += 1 + size/4 {
			rings, want := make([][]int64, size), make([]int64, size)
			for i := range rings {
				rings[i] = l.states(widthOf(r)+l.below(impl.MaxBack+1-widthOf(r)), r.States)
				want[i], _ = impl.CountBack(r, rings[i])
			}
			for workers := int64(1); workers <= impl.MaxWorkers; workers++ {
				wantOnly(t, "CountsShared", all(impl.CountsShared(r, rings, workers)), want)
			}
		}
	}
}

func TestCountsSharedLimits(t *testing.T) {
	r, ring := ruleNumber(t, 90), []int64{0, 0, 0}
	wantOnly(t, "CountsShared of 16 rings", all(impl.CountsShared(r, many(ring, 16), 3)), many(int64(2), 16))
	wantNone(t, "CountsShared of 17 rings", all(impl.CountsShared(r, many(ring, 17), 3)))
	wantOnly(t, "CountsShared of no rings", all(impl.CountsShared(r, nil, 1)), []int64{})
	wantOnly(t, "CountsShared of an empty list", all(impl.CountsShared(r, [][]int64{}, 8)), []int64{})
	for _, bad := range badRules() {
		wantNone(t, "CountsShared of no rings and no rule", all(impl.CountsShared(bad, nil, 1)))
	}
	wantLimits(t, "CountsShared, workers", 1, impl.MaxWorkers, func(n int64) []any { return all(impl.CountsShared(r, [][]int64{ring}, n)) })
	wantLimits(t, "CountsShared, workers, no rings", 1, impl.MaxWorkers, func(n int64) []any { return all(impl.CountsShared(r, nil, n)) })
	// One list that is no such ring makes all fail, wherever it stands.
	for at := range 16 {
		for _, bad := range append(badRings(2), []int64{0, 0}, many(int64(0), impl.MaxBack+1)) {
			rings := many(ring, 16)
			rings[at] = bad
			for _, workers := range []int64{1, 3, impl.MaxWorkers} {
				wantNone(t, "CountsShared of what is no ring", all(impl.CountsShared(r, rings, workers)))
			}
		}
	}
}

// All workers have ended when CountsShared returns, also where it fails.
func TestCountsSharedEnd(t *testing.T) {
	r := ruleNumber(t, 90)
	wantEnded(t, func() {
		impl.CountsShared(r, many(make([]int64, impl.MaxBack), 16), impl.MaxWorkers)
		impl.CountsShared(r, [][]int64{{2}, {0}, {0, 0, 0}}, impl.MaxWorkers)
		impl.CountsShared(r, nil, impl.MaxWorkers)
	})
}
