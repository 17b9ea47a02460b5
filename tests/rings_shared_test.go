package tests

import (
	"runtime"
	"slices"
	"testing"
	"time"

	"loop.example/g01381/impl"
)

// Any number of workers returns the same.
func TestRunsShared(t *testing.T) {
	l := &luck{37}
	for _, r := range drawnRules(2) {
		for size := 1; size <= 16; size++ {
			rings, want := make([][]int64, size), make([][]int64, size)
			steps := l.below(30)
			for i := range rings {
				rings[i] = l.states(1+l.below(impl.MaxRing), r.States)
				want[i] = rings[i]
				for range steps {
					want[i] = stepOf(t, r, want[i])
				}
			}
			for workers := int64(1); workers <= impl.MaxWorkers; workers++ {
				wantOnly(t, "RunsShared", all(impl.RunsShared(r, rings, steps, workers)), want)
			}
		}
	}
}

func TestRunsSharedLimits(t *testing.T) {
	r := ruleNumber(t, 30)
	for size := range 20 {
		rings := many([]int64{0, 1, 1}, size)
		got, ok := impl.RunsShared(r, rings, impl.MaxSteps, impl.MaxWorkers)
		if size < 1 || size > 16 {
			wantNone(t, "RunsShared of so many rings", all(got, ok))
		} else if !ok || len(got) != size {
			t.Errorf("RunsShared of %d rings: got %v, %v", size, got, ok)
		}
	}
	wantNone(t, "RunsShared of no rings", all(impl.RunsShared(r, nil, 0, 1)))
	// One list that is no ring makes all fail, wherever it stands.
	for at := range 16 {
		for _, bad := range badRings(2) {
			rings := many([]int64{0, 1}, 16)
			rings[at] = bad
			for _, workers := range []int64{1, 3, impl.MaxWorkers} {
				wantNone(t, "RunsShared of what is no ring", all(impl.RunsShared(r, rings, 1, workers)))
			}
		}
	}
	one, _ := impl.RunRing(r, []int64{1}, 5)
	two, _ := impl.RunRing(r, many(int64(1), impl.MaxRing), 5)
	wantOnly(t, "RunsShared of rings of two lengths", all(impl.RunsShared(r, [][]int64{{1}, many(int64(1), impl.MaxRing)}, 5, 2)), [][]int64{one, two})
}

// wantEnded checks that all workers have ended when a call returns.
func wantEnded(t *testing.T, call func()) {
	t.Helper()
	before := runtime.NumGoroutine()
	for range 200 {
		call()
	}
	// A goroutine that has told that it is done may take a moment to go.
	for range 100 {
		if runtime.NumGoroutine() <= before {
			return
		}
		time.Sleep(10 * time.Millisecond)
	}
	t.Errorf("%d goroutines more than before", runtime.NumGoroutine()-before)
}

// All workers have ended when RunsShared returns, also where it fails.
func TestWorkersEnd(t *testing.T) {
	wantEnded(t, func() {
		impl.RunsShared(ruleNumber(t, 30), many([]int64{0, 1, 1}, 16), 50, impl.MaxWorkers)
		impl.RunsShared(ruleNumber(t, 30), [][]int64{{2}, {0}, {0}}, 50, impl.MaxWorkers)
		impl.RunsShared(ruleNumber(t, 30), [][]int64{{0}}, -1, impl.MaxWorkers)
	})
}

// ringRoom is a list with unused capacity, and a report whether it was kept.
type ringRoom struct {
	list []int64
	kept func() bool
}

func roomOf(list []int64) ringRoom {
	room, kept := withRoom(list, 1, func(a, b int64) bool { return a == b })
	return ringRoom{room, kept}
}

// allOfRings calls each function of chapter 2 that takes lists.
func allOfRings(r, b impl.Rule, ring, other, order, told []int64) [][]any {
	return [][]any{
		all(impl.ValidRule(r)), all(impl.SameRule(r, b)), all(impl.IsRing(ring, r.States)),
		all(impl.StepRing(r, ring)), all(impl.RunRing(r, ring, 0)), all(impl.RunRing(r, ring, 3)),
		all(impl.RowsOfRing(r, ring, 0)), all(impl.RowsOfRing(r, ring, 3)), all(impl.NumberOfRule(r)),
		all(impl.TotalRule(r.States, r.Reach, told)), all(impl.SumRule(r.States, told)),
		all(impl.MirrorRule(r)), all(impl.OppositeRule(r)), all(impl.WiderRule(r)), all(impl.JoinRules(r, b)),
		all(impl.IsTotal(r)), all(impl.IsSumRule(r)), all(impl.ActiveShare(r)), all(impl.SenseOf(r)),
		all(impl.SecondStep(r, ring, other)), all(impl.AloneSteps(r, ring, nil)), all(impl.AloneSteps(r, ring, order)),
		all(impl.DamageOf(r, ring, other, 0)), all(impl.DamageOf(r, ring, other, 4)), all(impl.PeriodOf(r, ring, 99)),
		all(impl.TurnRing(ring, 0)), all(impl.TurnRing(ring, 5)), all(impl.TurnRing(ring, int64(min(len(ring), impl.MaxRing)))),
		all(impl.LeastTurn(ring)), all(impl.WordsOfRing(ring, r.States, 2)), all(impl.WordEntropy(ring, r.States, 2)),
		all(impl.DrawRing(r.States, 7, r.Reach)), all(impl.RuleOfNumber(r.Reach)),
		all(impl.RunsShared(r, [][]int64{ring, ring, other}, 0, 2)), all(impl.RunsShared(r, [][]int64{ring, ring, other}, 3, 2)),
	}
}

// wholeLists returns all lists in results, with their unused capacity.
func wholeLists(results [][]any) [][]int64 {
	var lists [][]int64
	for _, call := range results {
		for _, result := range call {
			switch x := result.(type) {
			case []int64:
				lists = append(lists, x[:cap(x)])
			case [][]int64:
				for _, row := range x {
					lists = append(lists, row[:cap(row)])
				}
			case impl.Rule:
				lists = append(lists, x.Table[:cap(x.Table)])
			case impl.Field:
				lists = append(lists, x.Cells[:cap(x.Cells)])
			case []impl.Field:
				for _, f := range x {
					lists = append(lists, f.Cells[:cap(f.Cells)])
				}
			}
		}
	}
	return lists
}

// wantPure checks calls that take lists: they return the same for equal lists,
// change none of them, nor their unused capacity, and share nothing with them.
func wantPure(t *testing.T, what string, lists [][]int64, calls func(lists [][]int64) [][]any) {
	t.Helper()
	want := shownCalls(calls(lists))
	rooms, given := make([]ringRoom, len(lists)), make([][]int64, len(lists))
	for i, list := range lists {
		rooms[i] = roomOf(list)
		given[i] = rooms[i].list
	}
	again := calls(given)
	if got := shownCalls(again); got != want {
		t.Errorf("%s: got %s and then %s", what, want, got)
	}
	// What is written to a result is in no argument, and no other result.
	for _, list := range wholeLists(again) {
		for i := range list {
			list[i] = -7
		}
	}
	if slices.ContainsFunc(rooms, func(room ringRoom) bool { return !room.kept() }) {
		t.Errorf("%s: an argument was changed, or is shared", what)
	}
	if got := shownCalls(calls(lists)); got != want {
		t.Errorf("%s: got %s and later %s", what, want, got)
	}
}

// withTable returns a rule with another table.
func withTable(r impl.Rule, table []int64) impl.Rule {
	return impl.Rule{States: r.States, Reach: r.Reach, Table: table}
}

// Promise 1: equal results for equal arguments, no argument is changed, and
// nothing is shared.
func TestRingsArePure(t *testing.T) {
	l := &luck{41}
	for _, r := range append(drawnRules(2), badRules()...) {
		states := min(max(r.States, 2), 3)
		for _, size := range []int64{0, 1, 2, 3, 5, 64, 65} {
			ring, other := l.states(size, states), l.states(size, states)
			order, told := l.states(9, max(size, 1)), l.states((2*min(max(r.Reach, 0), 2)+1)*(states-1)+1, states)
			b := l.rule(states, l.below(3))
			lists := [][]int64{r.Table, b.Table, ring, other, order, told}
			wantPure(t, "rule "+shown(r)+"ring "+shown(ring), lists, func(lists [][]int64) [][]any {
				return allOfRings(withTable(r, lists[0]), withTable(b, lists[1]), lists[2], lists[3], lists[4], lists[5])
			})
		}
	}
}

// shownCalls tells the results of calls.
func shownCalls(calls [][]any) string {
	text := ""
	for _, results := range calls {
		text += shown(results...) + "; "
	}
	return text
}

// wantApart checks that no two lists of a result share memory, with their
// unused capacity.
func wantApart(t *testing.T, result [][]int64) {
	t.Helper()
	lists := wholeLists([][]any{{result}})
	for i, list := range lists {
		for k := range list {
			list[k] = int64(i)
		}
	}
	for i, list := range lists {
		if slices.ContainsFunc(list, func(x int64) bool { return x != int64(i) }) {
			t.Errorf("the row %d shares memory with another one: %v", i, list)
		}
	}
}

func TestRowsAreApart(t *testing.T) {
	r, ring := ruleNumber(t, 204), []int64{0, 1, 1, 0, 1}
	rows, _ := impl.RowsOfRing(r, ring, impl.MaxRing)
	ends, _ := impl.RunsShared(r, many(ring, 16), 0, 4)
	wantApart(t, rows)
	wantApart(t, ends)
	if !slices.Equal(ring, []int64{0, 1, 1, 0, 1}) {
		t.Errorf("a result shares memory with the ring: %v", ring)
	}
}

// The list of rings has unused capacity, too.
func TestListsOfRingsAreKept(t *testing.T) {
	rings := [][]int64{{0, 1, 1}, {1}, {1, 0}, {0, 0, 0, 1}}
	want := shown(rings)
	for workers := int64(1); workers <= impl.MaxWorkers; workers++ {
		ends, ok := impl.RunsShared(ruleNumber(t, 170), rings[:2], 1, workers)
		wantOnly(t, "RunsShared", all(ends, ok), [][]int64{{1, 1, 0}, {1}})
		for i := range ends[:cap(ends)] {
			ends[:cap(ends)][i] = nil
		}
		wantNone(t, "RunsShared of too many steps", all(impl.RunsShared(ruleNumber(t, 170), rings[:2], impl.MaxSteps+1, workers)))
	}
	if got := shown(rings); got != want {
		t.Errorf("the list of rings was changed: got %s, want %s", got, want)
	}
}
