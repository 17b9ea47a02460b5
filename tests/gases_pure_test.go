package tests

import (
	"maps"
	"slices"
	"testing"

	"loop.example/g01381/impl"
)

// callsOfGas calls each function of chapter 6 that takes a gas.
func callsOfGas(g impl.Gas) map[string][]any {
	return map[string][]any{
		"ValidGas":           all(impl.ValidGas(g)),
		"CollideGas, left":   all(impl.CollideGas(g, true)),
		"CollideGas, right":  all(impl.CollideGas(g, false)),
		"StreamGas":          all(impl.StreamGas(g)),
		"RunGas":             all(impl.RunGas(g, 3)),
		"RunGas, 0":          all(impl.RunGas(g, 0)),
		"ReverseGas":         all(impl.ReverseGas(g)),
		"CountGas":           all(impl.CountGas(g)),
		"WayOfGas":           all(impl.WayOfGas(g)),
		"DenseBlocks":        all(impl.DenseBlocks(g, 1, 1)),
		"DenseBlocks of all": all(impl.DenseBlocks(g, g.Rows, g.Columns)),
	}
}

// callsOfFlow calls each function of chapter 6 that takes a flow.
func callsOfFlow(f impl.Flow, share float32) map[string][]any {
	return map[string][]any{
		"ValidFlow":              all(impl.ValidFlow(f)),
		"MassOf":                 all(impl.MassOf(f)),
		"CellOfFlow":             all(impl.CellOfFlow(f, 0, 0)),
		"RelaxFlow":              all(impl.RelaxFlow(f, share)),
		"StreamFlow":             all(impl.StreamFlow(f)),
		"RunFlow":                all(impl.RunFlow(f, share, 2)),
		"RunFlow, 0":             all(impl.RunFlow(f, share, 0)),
		"FlowsShared, 0":         all(impl.FlowsShared([]impl.Flow{f, f}, share, 0, 2)),
		"FlowsShared, one":       all(impl.FlowsShared([]impl.Flow{f}, share, 1, 1)),
		"FlowsShared, with more": all(impl.FlowsShared([]impl.Flow{evenOf(1, 1, calmOf(1, 0, 0)), f}, share, 0, 2)),
	}
}

// inOrder returns the results of calls by their names.
func inOrder(calls map[string][]any) [][]any {
	var results [][]any
	for _, name := range slices.Sorted(maps.Keys(calls)) {
		results = append(results, calls[name])
	}
	return results
}

// Each function succeeds with what is valid, and fails with all that is not.
func TestGasesThatFail(t *testing.T) {
	for name, results := range callsOfGas(evenGas(6, 2, 3, 9)) {
		wantBool(t, name+" of a gas that is valid", succeeds(results), true)
	}
	for name, results := range callsOfFlow(evenOf(2, 3, calmOf(1, 0, 0)), 1) {
		wantBool(t, name+" of a flow that is valid", succeeds(results), true)
	}
	for _, g := range badGases() {
		for name, results := range callsOfGas(g) {
			wantNone(t, named(name, g), results)
		}
	}
	for _, f := range badFlows() {
		for name, results := range callsOfFlow(f, 1) {
			wantNone(t, named(name, f), results)
		}
	}
}

// Promise 1: equal results for equal arguments, no argument is changed, and
// nothing is shared.
func TestGasesArePure(t *testing.T) {
	for _, g := range append(drawnGases(631), badGases()...) {
		wantPureOf(t, named("gas", g), g, func(g impl.Gas) [][]any {
			return append(inOrder(callsOfGas(g)), all(impl.SameGas(g, g)), all(impl.SameGas(g, evenGas(4, 1, 1, 0))), all(impl.SameGas(evenGas(4, 1, 1, 0), g)))
		})
	}
}

func TestFlowsArePure(t *testing.T) {
	for i, f := range append(drawnFlows(641), badFlows()...) {
		wantPureOf(t, named("flow", f), f, func(f impl.Flow) [][]any {
			return append(inOrder(callsOfFlow(f, shares()[i%len(shares())])), all(impl.SameFlow(f, f)), all(impl.SameFlow(f, evenOf(1, 1, calmOf(1, 0, 0)))), all(impl.EvenFlow(f.Rows, f.Columns, 1, 0, 0)))
		})
	}
}

// The list of flows has unused capacity, too.
func TestListsOfFlowsAreKept(t *testing.T) {
	l := &luck{643}
	var list []impl.Flow
	for range 9 {
		list = append(list, l.flow(1+l.below(4), 1+l.below(4), l.below(wallKinds)))
	}
	for size := range list {
		for workers := range int64(impl.MaxWorkers + 2) {
			wantPureOf(t, named("flows", size, workers), list[:size], func(list []impl.Flow) [][]any {
				return [][]any{all(impl.FlowsShared(list, 0.5, 2, workers)), all(impl.FlowsShared(list, 3, 2, workers)), all(impl.FlowsShared(list, 0.5, 257, workers))}
			})
		}
	}
}

func TestLanesArePure(t *testing.T) {
	l := &luck{647}
	lanes := append(drawnLanes(653), badLanes()...)
	for _, lane := range lanes {
		other := l.lane(int64(max(len(lane), 1)), 1+l.below(6))
		wantPureOf(t, named("lanes", lane, other), [][]int64{lane, other}, func(lanes [][]int64) [][]any {
			a, b := lanes[0], lanes[1]
			return [][]any{
				all(impl.IsLane(a)), all(impl.LaneStep(a, 5, 0.5, 7)), all(impl.LaneStep(a, 1, 1, 7)), all(impl.LaneSpeed(a)),
				all(impl.SwitchLanes(a, b)), all(impl.SwitchLanes(b, a)), all(impl.SwitchLanes(a, a)),
			}
		})
	}
}

func TestSpinsArePure(t *testing.T) {
	for _, f := range append(spinFields(659), notPlain()...) {
		wantPureOf(t, named("spins", f), f, func(f impl.Field) [][]any {
			return [][]any{all(impl.EnergyOf(f)), all(impl.SpinSweep(f, 0.4, 7)), all(impl.SpinSweep(f, 1000, 7))}
		})
	}
}

// A gas or a flow in the middle of longer lists is told by its own parts alone.
func TestGasesInLists(t *testing.T) {
	cells, walls := []int64{9, 5, 10, 0, 9}, []bool{true, false, false, true, true}
	g := impl.Gas{Ways: 4, Rows: 1, Columns: 3, Cells: cells[1:4], Walls: walls[1:4]}
	wantGas(t, "RunGas", all(impl.RunGas(g, 5)), runGas(g, 5))
	wantOnly(t, "CountGas", all(impl.CountGas(g)), 4)
	parts := append(append(many(float32(9), 9), calmOf(1, 0, 0)...), many(float32(9), 9)...)
	f := impl.Flow{Rows: 1, Columns: 1, Parts: parts[9:18], Walls: walls[1:2]}
	want, _ := flowAfter(f, 1, 5)
	wantFlow(t, "RunFlow", all(impl.RunFlow(f, 1, 5)), want, true)
	wantEach(t, "the lists", all(cells, walls), all([]int64{9, 5, 10, 0, 9}, []bool{true, false, false, true, true}))
}

// Any number of workers returns the same as one that runs the flows in order.
func TestWorkersOfFlows(t *testing.T) {
	l := &luck{661}
	var list []impl.Flow
	var want []float32
	for range 8 {
		f := l.flow(16, 16, l.below(wallKinds))
		ran, _ := impl.RunFlow(f, 1.2, 20)
		mass, _ := impl.MassOf(ran)
		list, want = append(list, f), append(want, mass)
	}
	for range 3 {
		for workers := int64(1); workers <= impl.MaxWorkers; workers++ {
			wantOnly(t, named("FlowsShared of workers", workers), all(impl.FlowsShared(list, 1.2, 20, workers)), want)
		}
	}
}
