package tests

import (
	"slices"
	"strings"
	"testing"

	"loop.example/g01381/impl"
)

// pairs are rings, and rings behind them.
type pairs struct{ Before, Behind [][]int64 }

// learned returns the table that pairs of rings tell, told by texts of rows that
// go on without end.
func learned(states, reach int64, p pairs) ([]int64, bool) {
	next := map[string]int64{}
	for i, ring := range p.Before {
		row := strings.Repeat(textOf(ring), 5)
		for at, state := range p.Behind[i] {
			from := 2*len(ring) + at - int(reach)
			cells := row[from : from+2*int(reach)+1]
			if was, ok := next[cells]; ok && was != state {
				return nil, false
			}
			next[cells] = state
		}
	}
	var table []int64
	for _, cells := range neighbourhoods(states, reach) {
		state, ok := next[cells]
		if !ok {
			state = -1
		}
		table = append(table, state)
	}
	return table, true
}

// pairsOf draws n pairs of rings from least cells on, those behind being a step of
// a rule.
func (l *luck) pairsOf(t *testing.T, r impl.Rule, n, least int64) pairs {
	t.Helper()
	var p pairs
	for range n {
		ring := l.states(least+l.below(9), r.States)
		p.Before, p.Behind = append(p.Before, ring), append(p.Behind, stepOf(t, r, ring))
	}
	return p
}

// Promise 8: tables that are learned are those of the rule, as far as they are
// told, and fill to rules that make the same steps.
func TestLearnTableOfRules(t *testing.T) {
	l := &luck{821}
	gaps, whole := 0, 0
	for _, r := range drawnRules(8) {
		for _, n := range []int64{1, 2, 5, impl.MaxTries} {
			p := l.pairsOf(t, r, n, widthOf(r))
			table, ok := impl.LearnTable(r.States, r.Reach, p.Before, p.Behind)
			want, _ := learned(r.States, r.Reach, p)
			wantOnly(t, named("LearnTable", p), all(table, ok), want)
			for i, state := range table {
				wantBool(t, named("a state that is told", r, i), state == r.Table[i] || state == -1, true)
			}
			gaps += boolNumber(slices.Contains(table, -1))
			whole += boolNumber(slices.Equal(table, r.Table))
			for state := range r.States {
				filled, ok := impl.FillTable(r.States, r.Reach, table, state)
				wantBool(t, named("FillTable", table, state), ok, true)
				for i, ring := range p.Before {
					wantOnly(t, named("StepRing of what is filled", filled, ring), all(impl.StepRing(filled, ring)), p.Behind[i])
				}
			}
			least, ok := impl.LeastReach(r.States, p.Before, p.Behind)
			wantBool(t, named("LeastReach", p), ok && least <= r.Reach, true)
		}
	}
	if gaps == 0 || whole == 0 {
		t.Errorf("%d tables have gaps, and %d have none", gaps, whole)
	}
}

// Rings behind that are drawn, and not told by a rule.
func TestLearnTable(t *testing.T) {
	l := &luck{823}
	failed, fine := 0, 0
	for range 3000 {
		states, reach := 2+l.below(2), l.below(3)
		var p pairs
		for range 1 + l.below(2) {
			size := 1 + l.below(7)
			p.Before, p.Behind = append(p.Before, l.states(size, states)), append(p.Behind, l.states(size, states))
		}
		long := !slices.ContainsFunc(p.Before, func(ring []int64) bool { return int64(len(ring)) < 2*reach+1 })
		want, ok := learned(states, reach, p)
		if got := all(impl.LearnTable(states, reach, p.Before, p.Behind)); ok && long {
			fine++
			wantOnly(t, named("LearnTable", states, reach, p), got, want)
		} else {
			failed++
			wantNone(t, named("LearnTable", states, reach, p), got)
		}
		wantLeastReach(t, states, p)
	}
	if failed < 100 || fine < 100 {
		t.Errorf("LearnTable failed %d times, and succeeded %d times", failed, fine)
	}
}

// wantLeastReach checks LeastReach of rings by trying each reach.
func wantLeastReach(t *testing.T, states int64, p pairs) {
	t.Helper()
	got := all(impl.LeastReach(states, p.Before, p.Behind))
	for reach := range int64(3) {
		short := slices.ContainsFunc(p.Before, func(ring []int64) bool { return int64(len(ring)) < 2*reach+1 })
		if _, ok := learned(states, reach, p); ok && !short {
			wantOnly(t, named("LeastReach", states, p), got, reach)
			return
		}
	}
	wantNone(t, named("LeastReach", states, p), got)
}

func TestLearnTableByHand(t *testing.T) {
	wantTable := func(what string, states, reach int64, p pairs, want ...int64) {
		t.Helper()
		wantOnly(t, what, all(impl.LearnTable(states, reach, p.Before, p.Behind)), want)
	}
	one := func(before, behind string) pairs {
		return pairs{[][]int64{cellsOf(before)}, [][]int64{cellsOf(behind)}}
	}
	wantTable("a ring of one cell", 2, 0, one("1", "0"), -1, 0)
	wantTable("a ring of one cell, of 3 states", 3, 0, one("1", "2"), -1, 2, -1)
	wantTable("a ring of both states", 2, 0, one("01", "10"), 1, 0)
	wantTable("a ring as long as a neighbourhood", 2, 1, one("001", "010"), -1, 1, 0, -1, 0, -1, -1, -1)
	wantTable("all cells are 0", 2, 1, one("000", "111"), 1, -1, -1, -1, -1, -1, -1, -1)
	wantTable("all cells are 0", 2, 2, one("00000", "11111"), append([]int64{1}, many(int64(-1), 31)...)...)
	wantTable("two rings of different lengths", 2, 0, pairs{[][]int64{{1}, {0, 1, 0}}, [][]int64{{0}, {1, 0, 1}}}, 1, 0)
	wantTable("the same twice", 2, 0, pairs{[][]int64{{1, 1}, {1}}, [][]int64{{1, 1}, {1}}}, -1, 1)
	// There are two different next states for one neighbourhood: in one ring, in
	// two, and as the first and the last cell.
	for _, p := range []pairs{
		one("00", "01"), one("00", "10"), one("0110", "1001").with("1", "1"), one("0", "1").with("0", "0"),
		one("111111111111111", "000000000000001"),
	} {
		wantNone(t, named("LearnTable", p), all(impl.LearnTable(2, 0, p.Before, p.Behind)))
	}
	// Only with a greater reach do they differ.
	wantNone(t, "LearnTable of reach 1", all(impl.LearnTable(2, 1, [][]int64{cellsOf("1000010")}, [][]int64{cellsOf("0001000")})))
	wantBool(t, "LearnTable of reach 2", succeeds(all(impl.LearnTable(2, 2, [][]int64{cellsOf("1000010")}, [][]int64{cellsOf("0001000")}))), true)
	wantOnly(t, "LeastReach of 2", all(impl.LeastReach(2, [][]int64{cellsOf("1000010")}, [][]int64{cellsOf("0001000")})), int64(2))
	wantOnly(t, "LeastReach of 1", all(impl.LeastReach(2, [][]int64{cellsOf("010")}, [][]int64{cellsOf("001")})), int64(1))
	wantOnly(t, "LeastReach of 0", all(impl.LeastReach(3, [][]int64{cellsOf("0")}, [][]int64{cellsOf("2")})), int64(0))
	// No reach tells them apart, or the one that would has too wide neighbourhoods.
	short := pairs{[][]int64{cellsOf("1000010"), cellsOf("0000")}, [][]int64{cellsOf("0001000"), cellsOf("0000")}}
	for _, p := range []pairs{short, one("00000", "00001"), one("00", "01"), one("000", "100"), one("0000", "0010")} {
		wantNone(t, named("LeastReach", p), all(impl.LeastReach(2, p.Before, p.Behind)))
	}
}

// with returns pairs with one more.
func (p pairs) with(before, behind string) pairs {
	return pairs{append(p.Before, cellsOf(before)), append(p.Behind, cellsOf(behind))}
}

// wantNoPairs checks that nothing is learned, for any reach.
func wantNoPairs(t *testing.T, what string, states int64, before, behind [][]int64) {
	t.Helper()
	for reach := range int64(3) {
		wantNone(t, named("LearnTable of "+what, states, reach, before, behind), all(impl.LearnTable(states, reach, before, behind)))
	}
	wantNone(t, named("LeastReach of "+what, states, before, behind), all(impl.LeastReach(states, before, behind)))
}

func TestLearningThatFails(t *testing.T) {
	ring := []int64{0, 1, 1, 0, 1, 1, 1}
	wantNoPairs(t, "nothing", 2, nil, nil)
	wantNoPairs(t, "no rings", 2, [][]int64{}, [][]int64{})
	wantNoPairs(t, "empty rings", 2, [][]int64{{}}, [][]int64{{}})
	wantNoPairs(t, "nil rings", 2, [][]int64{nil}, [][]int64{nil})
	wantNoPairs(t, "no rings behind", 2, [][]int64{ring}, nil)
	wantNoPairs(t, "no rings before", 2, nil, [][]int64{ring})
	wantNoPairs(t, "more rings before", 2, [][]int64{ring, ring}, [][]int64{ring})
	wantNoPairs(t, "more rings behind", 2, [][]int64{ring}, [][]int64{ring, ring})
	wantNoPairs(t, "a longer ring before", 2, [][]int64{ring, append(ring[:7:7], 0)}, [][]int64{ring, ring})
	wantNoPairs(t, "a longer ring behind", 2, [][]int64{ring, ring}, [][]int64{ring, append(ring[:7:7], 0)})
	for size := range 36 {
		got := all(impl.LearnTable(2, 1, many(ring, size), many(ring, size)))
		least := all(impl.LeastReach(2, many(ring, size), many(ring, size)))
		if size < 1 || size > impl.MaxTries {
			wantNone(t, named("LearnTable of so many rings", size), got)
			wantNone(t, named("LeastReach of so many rings", size), least)
		} else {
			wantOnly(t, named("LearnTable of so many rings", size), got, []int64{-1, -1, -1, 1, -1, 0, 1, 1})
			wantOnly(t, named("LeastReach of so many rings", size), least, int64(0))
		}
	}
	for states := int64(2); states <= 3; states++ {
		for _, bad := range badRings(states) {
			for _, good := range [][]int64{many(int64(0), len(bad)), ring} {
				wantNoPairs(t, "what is no ring before", states, [][]int64{ring, bad}, [][]int64{ring, good})
				wantNoPairs(t, "what is no ring behind", states, [][]int64{good, ring}, [][]int64{bad, ring})
			}
		}
	}
	for _, states := range append(ends(), 0, 1, 4, 5, -2, -3) {
		wantNoPairs(t, "such states", states, [][]int64{{0, 0, 0, 0, 0}}, [][]int64{{0, 0, 0, 0, 0}})
	}
	wantLimits(t, "LearnTable with a reach", 0, impl.MaxReach, func(n int64) []any { return all(impl.LearnTable(2, n, [][]int64{ring}, [][]int64{ring})) })
	wantLimits(t, "LearnTable with states", 2, 3, func(n int64) []any { return all(impl.LearnTable(n, 1, [][]int64{ring}, [][]int64{ring})) })
	wantLimits(t, "LeastReach with states", 2, 3, func(n int64) []any { return all(impl.LeastReach(n, [][]int64{ring}, [][]int64{ring})) })
	// Rings have at least as many cells as a neighbourhood, each of them.
	for reach := range int64(3) {
		for size := range int64(8) {
			zeros := many(int64(0), int(size))
			alone, beside := all(impl.LearnTable(2, reach, [][]int64{zeros}, [][]int64{zeros})), all(impl.LearnTable(2, reach, [][]int64{many(int64(0), 9), zeros}, [][]int64{many(int64(0), 9), zeros}))
			if size < max(2*reach+1, 1) {
				wantNone(t, named("LearnTable of a ring with cells", reach, size), alone)
				wantNone(t, named("LearnTable of rings with cells", reach, size), beside)
			} else {
				wantBool(t, named("LearnTable of a ring with cells", reach, size), succeeds(alone) && succeeds(beside), true)
			}
		}
	}
	longest := many(int64(1), impl.MaxRing)
	wantOnly(t, "LearnTable of the longest rings", all(impl.LearnTable(2, 0, many(longest, impl.MaxTries), many(longest, impl.MaxTries))), []int64{-1, 1})
}

func TestFillTable(t *testing.T) {
	l := &luck{827}
	for states := int64(2); states <= 3; states++ {
		for reach := range int64(3) {
			for range 20 {
				table, want := l.states(toThe(states, 2*reach+1), states+1), []int64(nil)
				state := l.below(states)
				for i := range table {
					table[i]--
					want = append(want, table[i])
					if table[i] == -1 {
						want[i] = state
					}
				}
				what := named("FillTable", states, reach, table, state)
				wantOnly(t, what, all(impl.FillTable(states, reach, table, state)), impl.Rule{States: states, Reach: reach, Table: want})
				for _, bad := range append(ends(), states, states+1, -2) {
					wantNone(t, what+named(" but", bad), all(impl.FillTable(states, reach, table, bad)))
				}
				for _, bad := range append(ends()[:4:4], states, -2, ends()[8]) {
					other := slices.Clone(table)
					other[l.below(int64(len(other)))] = bad
					wantNone(t, named("FillTable", other), all(impl.FillTable(states, reach, other, state)))
				}
				wantNone(t, what+", too long", all(impl.FillTable(states, reach, append(table[:len(table):len(table)], 0), state)))
				wantNone(t, what+", too long", all(impl.FillTable(states, reach, append(table[:len(table):len(table)], -1), state)))
				wantNone(t, what+", too short", all(impl.FillTable(states, reach, table[1:], state)))
			}
		}
	}
	wantOnly(t, "FillTable without gaps", all(impl.FillTable(2, 0, []int64{1, 0}, 1)), impl.Rule{States: 2, Table: []int64{1, 0}})
	wantOnly(t, "FillTable of gaps alone", all(impl.FillTable(3, 0, []int64{-1, -1, -1}, 2)), impl.Rule{States: 3, Table: []int64{2, 2, 2}})
	// The state must be one, also if there is no gap.
	for _, table := range [][]int64{{1, 0}, {-1, 0}} {
		wantLimits(t, "FillTable with a state", 0, 1, func(n int64) []any { return all(impl.FillTable(2, 0, table, n)) })
		wantLimits(t, "FillTable with a reach", 0, 0, func(n int64) []any { return all(impl.FillTable(2, n, table, 0)) })
		wantLimits(t, "FillTable with states", 2, 2, func(n int64) []any { return all(impl.FillTable(n, 0, table, 0)) })
	}
	wantNone(t, "FillTable of -2", all(impl.FillTable(2, 0, []int64{-2, 0}, 0)))
	wantNone(t, "FillTable of nothing", all(impl.FillTable(2, 0, nil, 0)))
	wantNone(t, "FillTable of a reach of -1", all(impl.FillTable(2, -1, []int64{}, 0)))
	wantNone(t, "FillTable of a reach of 3", all(impl.FillTable(2, 3, many(int64(0), 128), 0)))
}
