package tests

import (
	"math/bits"
	"slices"
	"testing"

	"loop.example/g01381/impl"
)

// mostOf returns the state in the middle of all cells of a ring, in order.
func mostOf(ring []int64) int64 { return slices.Sorted(slices.Values(ring))[len(ring)/2] }

// tasksOf returns what TaskCount does of what is valid.
func tasksOf(t *testing.T, r impl.Rule, n, tries, steps, seed int64) (int64, int64) {
	t.Helper()
	now, count := uint32(seed), int64(0)
	for range tries {
		var ring []int64
		for range n {
			now = now*1664525 + 1013904223
			ring = append(ring, int64(now>>31))
		}
		last := ring
		for range steps {
			last = stepOf(t, r, last)
		}
		count += int64(boolNumber(slices.Equal(last, many(mostOf(ring), int(n)))))
	}
	return count, int64(now)
}

// changeOf returns what ChangeRule does of what is valid.
func changeOf(r impl.Rule, times, seed int64) (impl.Rule, int64) {
	now, table := uint32(seed), slices.Clone(r.Table)
	for range times {
		now = now*1664525 + 1013904223
		place, _ := bits.Mul32(now, uint32(len(table)))
		table[place] = []int64{1, 0}[table[place]]
	}
	return withTable(r, table), int64(now)
}

// poolAfter returns what BreedOnce does of what is valid.
func poolAfter(t *testing.T, pool []impl.Rule, n, tries, steps, seed int64) ([]impl.Rule, int64) {
	t.Helper()
	byCount := map[int64][]impl.Rule{}
	var now int64
	for _, r := range pool {
		var count int64
		count, now = tasksOf(t, r, n, tries, steps, seed)
		byCount[count] = append(byCount[count], r)
	}
	var best []impl.Rule
	for count := tries; count >= 0; count-- {
		best = append(best, byCount[count]...)
	}
	best = best[:len(pool)/2]
	next := slices.Clone(best)
	for i := 0; len(next) < len(pool); i++ {
		a, b := best[i%len(best)].Table, best[(i+1)%len(best)].Table
		child := append(slices.Clone(a[:len(a)/2]), b[len(a)/2:]...)
		var r impl.Rule
		r, now = changeOf(withTable(pool[0], child), 1, now)
		next = append(next, r)
	}
	return next, now
}

// plainRules returns n drawn rules of 2 states and a reach, and some that often
// find the majority.
func (l *luck) plainRules(n, reach int64) []impl.Rule {
	var rules []impl.Rule
	for range n {
		r := l.rule(2, reach)
		if l.below(2) == 0 {
			for i, cells := range neighbourhoods(2, reach) {
				if l.below(8) > 0 {
					r.Table[i] = mostOf(cellsOf(cells))
				}
			}
		}
		rules = append(rules, r)
	}
	return rules
}

func TestMajorityOf(t *testing.T) {
	for n := range int64(12) {
		for _, cells := range textsOf(2, n) {
			ring := cellsOf(cells)
			if n%2 == 0 {
				wantNone(t, named("MajorityOf", ring), all(impl.MajorityOf(ring)))
			} else {
				wantOnly(t, named("MajorityOf", ring), all(impl.MajorityOf(ring)), mostOf(ring))
			}
		}
	}
	l := &luck{829}
	for n := range int64(67) {
		for ones := range n + 1 {
			ring := append(many(int64(0), int(n-ones)), many(int64(1), int(ones))...)
			by := l.below(n + 1)
			ring = append(ring[by:len(ring):len(ring)], ring[:by]...)
			if n%2 == 0 || n > 63 {
				wantNone(t, named("MajorityOf", ring), all(impl.MajorityOf(ring)))
			} else {
				wantOnly(t, named("MajorityOf", ring), all(impl.MajorityOf(ring)), int64(boolNumber(ones > n/2)))
			}
		}
	}
	wantOnly(t, "MajorityOf one cell", all(impl.MajorityOf([]int64{1})), int64(1))
	wantOnly(t, "MajorityOf one cell", all(impl.MajorityOf([]int64{0})), int64(0))
	for _, ring := range append(badRings(2), []int64{2}, []int64{0, 0, 2}, []int64{2, 2, 2}, []int64{-1, 1, 1}) {
		wantNone(t, named("MajorityOf", ring), all(impl.MajorityOf(ring)))
	}
}

// seeds are some seeds, and the least and the greatest ones.
func seeds() []int64 { return []int64{0, 1, 7, 123456789, 1 << 31, 4294967294, 4294967295} }

func TestTaskCount(t *testing.T) {
	l := &luck{839}
	counts := map[int64]bool{}
	for reach := range int64(3) {
		for i, r := range l.plainRules(24, reach) {
			for _, n := range []int64{1, 3, 5, 7, 15, 63} {
				tries, steps, seed := 1+l.below(8), l.below(6), seeds()[i%7]
				got := all(impl.TaskCount(r, n, tries, steps, seed))
				if n < 2*reach+1 {
					wantNone(t, named("TaskCount", r, n), got)
					continue
				}
				count, then := tasksOf(t, r, n, tries, steps, seed)
				wantAll(t, named("TaskCount", r, n, tries, steps, seed), got, count, then)
				counts[count] = true
			}
		}
	}
	if len(counts) < 6 {
		t.Errorf("there are only the counts %v", counts)
	}
	// A rule that keeps all cells finds it where all are alike, and the one that
	// takes the majority of three does so in rings of three.
	keep := ruleNumber(t, 204)
	count, then := tasksOf(t, keep, 3, impl.MaxTries, 0, 5)
	wantBool(t, "some rings of three are alike", count > 0 && count < 32, true)
	wantAll(t, "TaskCount of most tries", all(impl.TaskCount(keep, 3, impl.MaxTries, 64, 5)), count, then)
	wantAll(t, "TaskCount of the majority", all(impl.TaskCount(ruleNumber(t, 232), 3, 32, 1, 5)), int64(32), then)
	wantAll(t, "TaskCount of the majority without steps", all(impl.TaskCount(ruleNumber(t, 232), 3, 32, 0, 5)), count, then)
	wantAll(t, "TaskCount of the opposite of one cell", all(impl.TaskCount(impl.Rule{States: 2, Table: []int64{1, 0}}, 1, 32, 63, 5)), int64(0), int64(seedAfter(5, 32)))
	wantAll(t, "TaskCount of the opposite twice", all(impl.TaskCount(impl.Rule{States: 2, Table: []int64{1, 0}}, 1, 32, 64, 5)), int64(32), int64(seedAfter(5, 32)))
}

// seedAfter returns what a seed becomes.
func seedAfter(seed uint32, times int) uint32 {
	for range times {
		seed = seed*1664525 + 1013904223
	}
	return seed
}

func TestTaskCountLimits(t *testing.T) {
	for reach := range int64(3) {
		r := impl.Rule{States: 2, Reach: reach, Table: many(int64(1), int(toThe(2, 2*reach+1)))}
		for n := int64(-3); n < 70; n++ {
			got := all(impl.TaskCount(r, n, 2, 1, 9))
			if n < 2*reach+1 || n > impl.MaxRing || n%2 == 0 {
				wantNone(t, named("TaskCount", r, n), got)
			} else {
				wantBool(t, named("TaskCount", r, n), succeeds(got), true)
			}
		}
		for _, n := range ends() {
			wantNone(t, named("TaskCount", r, n), all(impl.TaskCount(r, n, 2, 1, 9)))
		}
		wantLimits(t, "TaskCount with tries", 1, impl.MaxTries, func(n int64) []any { return all(impl.TaskCount(r, 5, n, 1, 9)) })
		wantLimits(t, "TaskCount with steps", 0, 64, func(n int64) []any { return all(impl.TaskCount(r, 5, 2, n, 9)) })
		wantLimits(t, "TaskCount with a seed", 0, 4294967295, func(n int64) []any { return all(impl.TaskCount(r, 5, 2, 1, n)) })
	}
	for _, r := range append(badRules(), threeStates()...) {
		wantNone(t, named("TaskCount", r), all(impl.TaskCount(r, 5, 2, 1, 9)))
	}
}

// threeStates are rules of 3 states.
func threeStates() []impl.Rule {
	return []impl.Rule{
		{States: 3, Table: []int64{0, 1, 2}}, {States: 3, Table: []int64{0, 0, 0}},
		{States: 3, Reach: 1, Table: many(int64(0), 27)}, {States: 3, Reach: 2, Table: many(int64(1), 243)},
	}
}

func TestCrossRules(t *testing.T) {
	l := &luck{853}
	for reach := range int64(3) {
		for range 10 {
			a, b := l.rule(2, reach), l.rule(2, reach)
			size := int64(len(a.Table))
			for place := range size + 1 {
				want := slices.Clone(a.Table)
				for i := range want {
					if int64(i) >= place {
						want[i] = b.Table[i]
					}
				}
				wantOnly(t, named("CrossRules", a, b, place), all(impl.CrossRules(a, b, place)), withTable(a, want))
				// Crossed with itself, a rule stays.
				wantOnly(t, named("CrossRules", a, a, place), all(impl.CrossRules(a, a, place)), a)
			}
			wantOnly(t, named("CrossRules at the first place", a, b), all(impl.CrossRules(a, b, 0)), b)
			wantOnly(t, named("CrossRules at the last place", a, b), all(impl.CrossRules(a, b, size)), a)
			wantOnly(t, named("CrossRules before it", a, b), all(impl.CrossRules(a, b, size-1)), withTable(a, append(a.Table[:size-1:size-1], b.Table[size-1])))
			wantLimits(t, named("CrossRules", a, b), 0, size, func(n int64) []any { return all(impl.CrossRules(a, b, n)) })
			for other := range int64(3) {
				if other != reach {
					wantNone(t, "CrossRules of other reaches", all(impl.CrossRules(a, l.rule(2, other), 1)))
				}
			}
		}
	}
	keep := impl.Rule{States: 2, Table: []int64{0, 1}}
	for _, r := range append(badRules(), threeStates()...) {
		wantNone(t, named("CrossRules", keep, r), all(impl.CrossRules(keep, r, 1)))
		wantNone(t, named("CrossRules", r, keep), all(impl.CrossRules(r, keep, 1)))
		wantNone(t, named("CrossRules", r, r), all(impl.CrossRules(r, r, 0)))
	}
}

func TestChangeRule(t *testing.T) {
	l := &luck{857}
	for reach := range int64(3) {
		for range 10 {
			r := l.rule(2, reach)
			for _, seed := range append(seeds(), l.below(1<<31)) {
				for _, times := range []int64{0, 1, 2, 3, 10, 63, 64} {
					want, then := changeOf(r, times, seed)
					wantAll(t, named("ChangeRule", r, times, seed), all(impl.ChangeRule(r, times, seed)), want, then)
				}
				wantAll(t, named("ChangeRule without times", r, seed), all(impl.ChangeRule(r, 0, seed)), r, seed)
			}
			wantLimits(t, named("ChangeRule", r), 0, 64, func(n int64) []any { return all(impl.ChangeRule(r, n, 7)) })
			wantLimits(t, named("ChangeRule with a seed", r), 0, 4294967295, func(n int64) []any { return all(impl.ChangeRule(r, 1, n)) })
			for _, seed := range []int64{-1, 4294967296} {
				wantNone(t, named("ChangeRule without times", r, seed), all(impl.ChangeRule(r, 0, seed)))
			}
		}
	}
	for _, r := range append(badRules(), threeStates()...) {
		wantNone(t, named("ChangeRule", r), all(impl.ChangeRule(r, 1, 7)))
		wantNone(t, named("ChangeRule", r), all(impl.ChangeRule(r, 0, 7)))
	}
	// Of the seed 0, the next one is 1013904223: 0.236 of all.
	wantAll(t, "ChangeRule of the seed 0", all(impl.ChangeRule(ruleNumber(t, 0), 1, 0)), ruleNumber(t, 2), int64(1013904223))
	wantAll(t, "ChangeRule of a 1", all(impl.ChangeRule(ruleNumber(t, 255), 1, 0)), ruleNumber(t, 253), int64(1013904223))
}

func TestBreedOnce(t *testing.T) {
	l := &luck{859}
	for i, size := range []int64{2, 3, 4, 5, 7, 8, 15, 16} {
		for reach := range int64(3) {
			for range 4 {
				pool := l.plainRules(size, reach)
				n, tries, steps, seed := 5+2*l.below(3), 1+l.below(6), l.below(4), seeds()[i%7]
				want, then := poolAfter(t, pool, n, tries, steps, seed)
				for workers := int64(1); workers <= impl.MaxWorkers; workers++ {
					got := all(impl.BreedOnce(pool, n, tries, steps, seed, workers))
					wantAll(t, named("BreedOnce", pool, n, tries, steps, seed, workers), got, want, then)
				}
			}
		}
	}
}

// The rules of a pool with equal counts stay in order.
func TestBreedOnceByHand(t *testing.T) {
	rule := func(first, second int64) impl.Rule { return impl.Rule{States: 2, Table: []int64{first, second}} }
	keep, turn, zero, one := rule(0, 1), rule(1, 0), rule(0, 0), rule(1, 1)
	// A ring of one cell without steps is what most of it is: all rules find it.
	next, then, ok := impl.BreedOnce([]impl.Rule{zero, turn, keep, one}, 1, 2, 0, 0, 3)
	wantBool(t, "BreedOnce of equal counts", ok && impl.SameRule(next[0], zero) && impl.SameRule(next[1], turn) && len(next) == 4, true)
	// The first child has the first half of zero, and the second one of turn, and
	// the second child the first half of turn, and the second one of zero.
	third, seed := changeOf(rule(0, 0), 1, int64(seedAfter(0, 2)))
	fourth, seed := changeOf(rule(1, 0), 1, seed)
	wantEach(t, "the children", all(next[2], next[3], then), all(third, fourth, seed))
	// Behind one step, only keep finds the majority of one cell always.
	next, _, _ = impl.BreedOnce([]impl.Rule{turn, keep}, 1, 8, 1, 0, 2)
	wantBool(t, "the better rule", impl.SameRule(next[0], keep), true)
	// One rule is crossed with itself, round and round.
	third, seed = changeOf(keep, 1, int64(seedAfter(0, 8)))
	fourth, seed = changeOf(keep, 1, seed)
	wantAll(t, "BreedOnce of three", all(impl.BreedOnce([]impl.Rule{turn, turn, keep}, 1, 8, 1, 0, 2)), []impl.Rule{keep, third, fourth}, seed)
	// Of seven cells, zero finds some, one the others, and turn none.
	zeros, _ := tasksOf(t, zero, 1, 7, 1, 0)
	best, second := zero, one
	if zeros < 4 {
		best, second = one, zero
	}
	next, _, _ = impl.BreedOnce([]impl.Rule{turn, second, best, turn, turn}, 1, 7, 1, 0, 2)
	wantEach(t, "in the order of counts", all(next[:2]), all([]impl.Rule{best, second}))
	wantBool(t, "zero and one find some", zeros > 0 && zeros < 7, true)
}

func TestBreedOnceThatFails(t *testing.T) {
	r, wide := ruleNumber(t, 232), impl.Rule{States: 2, Reach: 2, Table: many(int64(0), 32)}
	for size := range 20 {
		got := all(impl.BreedOnce(many(r, size), 5, 2, 1, 0, 2))
		if size < 2 || size > impl.MaxPool {
			wantNone(t, named("BreedOnce of so many rules", size), got)
		} else {
			want, then := poolAfter(t, many(r, size), 5, 2, 1, 0)
			wantAll(t, named("BreedOnce of so many rules", size), got, want, then)
		}
	}
	wantNone(t, "BreedOnce of nothing", all(impl.BreedOnce(nil, 5, 2, 1, 0, 2)))
	for at := range 5 {
		for _, bad := range append(append(badRules(), threeStates()...), wide, impl.Rule{States: 2, Table: []int64{0, 1}}) {
			pool := many(r, 5)
			pool[at] = bad
			for _, workers := range []int64{1, 3, impl.MaxWorkers} {
				wantNone(t, named("BreedOnce", pool), all(impl.BreedOnce(pool, 5, 2, 1, 0, workers)))
			}
		}
	}
	pool := many(r, 3)
	wantLimits(t, "BreedOnce with tries", 1, impl.MaxTries, func(n int64) []any { return all(impl.BreedOnce(pool, 5, n, 1, 0, 2)) })
	wantLimits(t, "BreedOnce with steps", 0, 64, func(n int64) []any { return all(impl.BreedOnce(pool, 5, 2, n, 0, 2)) })
	wantLimits(t, "BreedOnce with a seed", 0, 4294967295, func(n int64) []any { return all(impl.BreedOnce(pool, 5, 2, 1, n, 2)) })
	wantLimits(t, "BreedOnce with workers", 1, impl.MaxWorkers, func(n int64) []any { return all(impl.BreedOnce(pool, 5, 2, 1, 0, n)) })
	for n := int64(-3); n < 70; n++ {
		wantBool(t, named("BreedOnce with rings of", n), succeeds(all(impl.BreedOnce(pool, n, 1, 1, 0, 2))), n >= 3 && n <= 63 && n%2 == 1)
		if n < 3 || n > 63 || n%2 == 0 {
			wantNone(t, named("BreedOnce with rings of", n), all(impl.BreedOnce(pool, n, 1, 1, 0, 2)))
		}
	}
	wantEnded(t, func() {
		impl.BreedOnce(pool, 5, 2, 3, 0, impl.MaxWorkers)
		impl.BreedOnce(pool, 4, 2, 3, 0, impl.MaxWorkers)
		impl.BreedOnce([]impl.Rule{r, wide}, 5, 2, 3, 0, impl.MaxWorkers)
	})
}
