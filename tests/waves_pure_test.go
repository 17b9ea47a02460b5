package tests

import (
	"slices"
	"testing"

	"loop.example/g01381/impl"
)

// callsOfWaves calls each function of chapter 7 that takes a field.
func callsOfWaves(f impl.Field, states int64) [][]any {
	return [][]any{
		all(impl.ExciteStep(f, states, 1, true)), all(impl.ExciteStep(f, states, 2, false)),
		all(impl.ExciteRun(f, states, 1, true, 3)), all(impl.ExciteRun(f, states, 1, false, 0)),
		all(impl.WindingOf(f, states)), all(impl.SpiralsOf(f, states)), all(impl.PhasesOf(f, states)),
		all(impl.VoteStep(f, true)), all(impl.VoteStep(f, false)), all(impl.VoteRun(f, true, 9)), all(impl.VoteRun(f, false, 0)),
	}
}

// callsOfPhases calls each function of chapter 7 that takes phases.
func callsOfPhases(p impl.Phases) [][]any {
	return [][]any{
		all(impl.ValidPhases(p)), all(impl.SamePhases(p, p)), all(impl.SamePhases(p, rowOfPhases(1))), all(impl.SamePhases(rowOfPhases(1), p)),
		all(impl.StatesOf(p, 3)), all(impl.StatesOf(p, 9)), all(impl.StatesOf(p, 2)), all(impl.FlowPhases(p, 0.1, 0.2, 0.3)),
		all(impl.FlowPhases(p, 0, 0, 0)), all(impl.MeanPhase(p)), all(impl.WindingOfPhases(p)),
	}
}

// callsOfPairs calls each function of chapter 7 that takes pairs of rings.
func callsOfPairs(states int64, p pairs) [][]any {
	calls := [][]any{all(impl.LeastReach(states, p.Before, p.Behind)), all(impl.LeastReach(states, p.Behind, p.Before))}
	for reach := int64(-1); reach <= 3; reach++ {
		calls = append(calls, all(impl.LearnTable(states, reach, p.Before, p.Behind)), all(impl.LearnTable(states, reach, p.Before, p.Before)))
	}
	for _, ring := range p.Before {
		calls = append(calls, all(impl.MajorityOf(ring)), all(impl.FillTable(states, 1, ring, 0)), all(impl.FillTable(states, 0, ring, 1)))
	}
	return calls
}

// callsOfPool calls each function of chapter 7 that takes rules.
func callsOfPool(pool []impl.Rule) [][]any {
	calls := [][]any{all(impl.BreedOnce(pool, 5, 2, 1, 7, 3)), all(impl.BreedOnce(pool, 5, 1, 0, 0, 1)), all(impl.BreedOnce(pool, 4, 2, 1, 7, 3))}
	for i, a := range pool {
		b := pool[len(pool)-1-i]
		calls = append(calls, all(impl.TaskCount(a, 5, 2, 1, 7)), all(impl.ChangeRule(a, 0, 7)), all(impl.ChangeRule(a, 5, 7)),
			all(impl.CrossRules(a, b, 0)), all(impl.CrossRules(a, b, 2)), all(impl.CrossRules(a, b, int64(len(a.Table)))),
			all(impl.FillTable(a.States, a.Reach, a.Table, 0)))
	}
	return calls
}

// callsOfSaved calls each function of chapter 7 that takes what is saved.
func callsOfSaved(list []impl.Saved) [][]any {
	calls := [][]any{all(impl.StoreAll(list)), all(impl.SameSaved(list, list)), all(impl.SameSaved(list, nil))}
	for _, s := range list {
		calls = append(calls, all(impl.ValidSaved(s)), all(impl.StoreSaved(s)))
	}
	return calls
}

// Promise 1: equal results for equal arguments, no argument is changed, and
// nothing is shared.
func TestWavesArePure(t *testing.T) {
	fields := append(drawnFields(911, 1), append(drawnWaves(919, 5), badFields()...)...)
	for _, f := range fields {
		for _, states := range []int64{3, 5, 9, 10} {
			wantPureOf(t, named("waves", f, states), f, func(f impl.Field) [][]any { return callsOfWaves(f, states) })
		}
	}
}

func TestPhasesArePure(t *testing.T) {
	for _, p := range append(drawnPhases(929), badPhases()...) {
		wantPureOf(t, named("phases", p), p, callsOfPhases)
	}
}

func TestLearningIsPure(t *testing.T) {
	l := &luck{937}
	for i, r := range drawnRules(6) {
		p := l.pairsOf(t, r, 1+int64(i%3), widthOf(r))
		for _, p := range []pairs{p, {p.Before, p.Before}, {p.Before, nil}, {p.Before, p.Behind[1:]}, {badRings(r.States), badRings(r.States)}} {
			for states := int64(1); states <= 4; states++ {
				wantPureOf(t, named("pairs", p, states), p, func(p pairs) [][]any { return callsOfPairs(states, p) })
			}
		}
	}
}

func TestBreedingIsPure(t *testing.T) {
	l := &luck{941}
	pools := [][]impl.Rule{nil, {}, badRules(), threeStates(), drawnRules(2)}
	for reach := range int64(3) {
		for _, size := range []int64{1, 2, 3, 7, 16, 17} {
			pools = append(pools, l.plainRules(size, reach))
		}
	}
	for _, pool := range pools {
		wantPureOf(t, named("pool", pool), pool, callsOfPool)
	}
	// One table in all rules of a pool is in no two rules of the next one.
	r := ruleNumber(t, 232)
	results := all(impl.BreedOnce(many(r, 16), 5, 2, 1, 0, 8))
	wantOwnMemory(t, "BreedOnce of one table", all(r), results)
}

func TestFilesArePure(t *testing.T) {
	some := append(goodSaved(947), badSaved()...)
	for size := range 10 {
		for at := 0; at+size <= len(some); at += 5 {
			wantPureOf(t, named("files", size, at), some[at:at+size], callsOfSaved)
		}
	}
	for _, s := range goodSaved(953)[:12] {
		stored := storedOf(s) + storedOf(smallSaved())
		for _, text := range []string{stored, storedOf(s), stored[:len(stored)-1], stored + "CEL1", "", "CEL1"} {
			calls := func() [][]any { return [][]any{all(impl.LoadSaved(text)), all(impl.RecoverAll(text))} }
			first, second := calls(), calls()
			wantBool(t, named("files", text), shownCalls(first) == shownCalls(second), true)
			wantOwnMemory(t, named("files", text), nil, slices.Concat(first[0], first[1], second[0], second[1]))
		}
	}
}

// Fields, phases and rings in the middle of longer lists are told by their own
// parts alone.
func TestWavesInLists(t *testing.T) {
	cells, phases := []int64{2, 0, 1, 0, 0, 2}, []complex64{7, 1, complex(0, 1), 7}
	wantOnly(t, "ExciteStep", all(impl.ExciteStep(impl.Field{Rows: 1, Columns: 4, Cells: cells[1:5]}, 3, 1, true)), fieldOf("1210"))
	wantOnly(t, "MeanPhase", all(impl.MeanPhase(rowOfPhases(phases[1:3]...))), complex64(complex(0.5, 0.5)))
	wantOnly(t, "MajorityOf", all(impl.MajorityOf(cells[1:4])), int64(0))
	wantOnly(t, "LearnTable", all(impl.LearnTable(2, 0, [][]int64{cells[1:3]}, [][]int64{cells[2:4]})), []int64{1, 0})
	wantEach(t, "the lists", all(cells, phases), all([]int64{2, 0, 1, 0, 0, 2}, []complex64{7, 1, complex(0, 1), 7}))
}

// Any number of workers returns the same, and the same as one rule after another.
func TestWorkersOfPools(t *testing.T) {
	l := &luck{967}
	for range 3 {
		pool := l.plainRules(impl.MaxPool, 2)
		want, then := poolAfter(t, pool, 9, 4, 5, 99)
		for range 5 {
			for workers := int64(1); workers <= impl.MaxWorkers; workers++ {
				wantAll(t, named("BreedOnce of workers", workers), all(impl.BreedOnce(pool, 9, 4, 5, 99, workers)), want, then)
			}
		}
	}
}

// Each function returns for numbers as great and as small as integers have.
func TestWavesReturn(t *testing.T) {
	f, ring := fieldOf("01", "10"), []int64{0, 1, 1, 0, 1}
	r, p := ruleNumber(t, 90), rowOfPhases(1, 1)
	for _, n := range append(ends(), -1) {
		for what, results := range map[string][]any{
			"ExciteStep, states": all(impl.ExciteStep(f, n, 1, true)), "ExciteStep, bar": all(impl.ExciteStep(f, 3, n, true)),
			"ExciteRun, states": all(impl.ExciteRun(f, n, 1, true, 1)), "ExciteRun, bar": all(impl.ExciteRun(f, 3, n, true, 1)),
			"ExciteRun, steps": all(impl.ExciteRun(f, 3, 1, true, n)), "WindingOf": all(impl.WindingOf(f, n)),
			"SpiralsOf": all(impl.SpiralsOf(f, n)), "PhasesOf": all(impl.PhasesOf(f, n)), "StatesOf": all(impl.StatesOf(p, n)),
			"VoteRun": all(impl.VoteRun(f, true, n)), "LearnTable, states": all(impl.LearnTable(n, 1, [][]int64{ring}, [][]int64{ring})),
			"LearnTable, reach": all(impl.LearnTable(2, n, [][]int64{ring}, [][]int64{ring})), "LeastReach": all(impl.LeastReach(n, [][]int64{ring}, [][]int64{ring})),
			"FillTable, states": all(impl.FillTable(n, 0, []int64{0, 1}, 0)), "FillTable, reach": all(impl.FillTable(2, n, []int64{0, 1}, 0)),
			"FillTable, table": all(impl.FillTable(2, 0, []int64{0, n}, 0)), "FillTable, state": all(impl.FillTable(2, 0, []int64{0, -1}, n)),
			"FillTable, all": all(impl.FillTable(n, n, []int64{n, n}, n)), "MajorityOf": all(impl.MajorityOf([]int64{1, n, 1})),
			"TaskCount, n": all(impl.TaskCount(r, n, 1, 1, 1)), "TaskCount, tries": all(impl.TaskCount(r, 5, n, 1, 1)),
			"TaskCount, steps": all(impl.TaskCount(r, 5, 1, n, 1)), "TaskCount, seed": all(impl.TaskCount(r, 5, 1, 1, n)),
			"CrossRules": all(impl.CrossRules(r, r, n)), "ChangeRule, times": all(impl.ChangeRule(r, n, 1)), "ChangeRule, seed": all(impl.ChangeRule(r, 1, n)),
			"BreedOnce, n": all(impl.BreedOnce(many(r, 2), n, 1, 1, 1, 1)), "BreedOnce, tries": all(impl.BreedOnce(many(r, 2), 5, n, 1, 1, 1)),
			"BreedOnce, steps": all(impl.BreedOnce(many(r, 2), 5, 1, n, 1, 1)), "BreedOnce, seed": all(impl.BreedOnce(many(r, 2), 5, 1, 1, n, 1)),
			"BreedOnce, workers": all(impl.BreedOnce(many(r, 2), 5, 1, 1, 1, n)),
		} {
			// A table with -1 has a gap.
			if what == "FillTable, table" && n == -1 {
				continue
			}
			wantNone(t, named(what, n), results)
		}
	}
}
