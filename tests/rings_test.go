package tests

import (
	"slices"
	"testing"

	"loop.example/g01381/impl"
)

func TestRingExamples(t *testing.T) {
	ninety := ruleNumber(t, 90)
	wantOnly(t, "the rule 90", all(impl.StepRing(ninety, []int64{0, 1, 0})), []int64{1, 0, 1})
	sum, ok := impl.SumRule(2, []int64{1, 0, 1})
	if !ok || !impl.SameRule(sum, ninety) {
		t.Errorf("the sum rule of 1, 0 and 1: got %v, %v", sum, ok)
	}
	wantOnly(t, "the rule 90 is a sum rule", all(impl.IsSumRule(ninety)), true)
	for _, ring := range drawnRings(2) {
		wantOnly(t, "the rule 204", all(impl.StepRing(ruleNumber(t, 204), ring)), ring)
		wantOnly(t, "the rule 170", all(impl.StepRing(ruleNumber(t, 170), ring)), append(slices.Clone(ring[1:]), ring[0]))
	}
	wantOnly(t, "the mirror of the rule 170", all(impl.MirrorRule(ruleNumber(t, 170))), ruleNumber(t, 240))
}

func TestValidRule(t *testing.T) {
	for states := int64(2); states <= 3; states++ {
		for reach := int64(0); reach <= impl.MaxReach; reach++ {
			size := toThe(states, 2*reach+1)
			for state := int64(-1); state <= states; state++ {
				for _, at := range []int64{0, size / 2, size - 1} {
					r := impl.Rule{States: states, Reach: reach, Table: make([]int64, size)}
					r.Table[at] = state
					wantBool(t, "ValidRule", impl.ValidRule(r), state >= 0 && state < states)
				}
			}
			for _, n := range []int64{0, 1, size - 1, size + 1, 2 * size} {
				r := impl.Rule{States: states, Reach: reach, Table: make([]int64, n)}
				wantBool(t, "ValidRule of a table of another length", impl.ValidRule(r), false)
			}
		}
	}
	for _, r := range badRules() {
		if impl.ValidRule(r) {
			t.Errorf("%v is valid", r)
		}
	}
}

func TestSameRule(t *testing.T) {
	rules := append(drawnRules(3), badRules()...)
	for i, a := range rules {
		for k, b := range rules {
			same := a.States == b.States && a.Reach == b.Reach && textOfList(t, a.Table) == textOfList(t, b.Table)
			if impl.SameRule(a, b) != same {
				t.Errorf("rules %d and %d: %v and %v: want %v", i, k, a, b, same)
			}
		}
	}
	wantBool(t, "no table and an empty one", impl.SameRule(impl.Rule{States: 9}, impl.Rule{States: 9, Table: []int64{}}), true)
	r := impl.Rule{States: 2, Reach: 0, Table: []int64{0, 1}}
	for _, other := range []impl.Rule{
		{States: 3, Reach: 0, Table: []int64{0, 1}},
		{States: 2, Reach: 1, Table: []int64{0, 1}},
		{States: 2, Reach: 0, Table: []int64{1, 1}},
		{States: 2, Reach: 0, Table: []int64{0, 0}},
		{States: 2, Reach: 0, Table: []int64{0, 1, 0}},
		{States: 2, Reach: 0, Table: []int64{0}},
	} {
		wantBool(t, "another rule", impl.SameRule(r, other), false)
		wantBool(t, "another rule, exchanged", impl.SameRule(other, r), false)
	}
}

// textOfList tells integers of any size.
func textOfList(t *testing.T, list []int64) string {
	t.Helper()
	return shown(append([]int64{}, list...))
}

func TestIsRing(t *testing.T) {
	for states := int64(-1); states <= 5; states++ {
		fine := states == 2 || states == 3
		for _, size := range []int{1, 2, 3, 63, 64} {
			for state := int64(0); state < max(states, 1); state++ {
				wantBool(t, "IsRing", impl.IsRing(many(state, size), states), fine)
			}
		}
		for _, ring := range badRings(states) {
			wantBool(t, "IsRing of no ring", impl.IsRing(ring, states), false)
		}
	}
	wantBool(t, "IsRing, 2 for 2 states", impl.IsRing([]int64{0, 1, 2}, 2), false)
	wantBool(t, "IsRing, 2 for 3 states", impl.IsRing([]int64{0, 1, 2}, 3), true)
	wantBool(t, "IsRing, 3 for 3 states", impl.IsRing([]int64{0, 1, 3}, 3), false)
	wantBool(t, "IsRing, many states", impl.IsRing([]int64{0}, 1<<62), false)
}

func TestSteps(t *testing.T) {
	for _, r := range drawnRules(6) {
		for _, ring := range drawnRings(r.States) {
			rows := [][]int64{ring}
			for i := range int64(impl.MaxRing) {
				rows = append(rows, stepOf(t, r, rows[i]))
			}
			wantOnly(t, "StepRing", all(impl.StepRing(r, ring)), rows[1])
			for _, steps := range []int64{0, 1, 2, 7, impl.MaxRing} {
				wantOnly(t, "RunRing", all(impl.RunRing(r, ring, steps)), rows[steps])
				wantOnly(t, "RowsOfRing", all(impl.RowsOfRing(r, ring, steps)), rows[:steps+1])
			}
		}
	}
}

// All rings that are shorter than a neighbourhood, or as long as one.
func TestStepsOfShortRings(t *testing.T) {
	for _, r := range drawnRules(3) {
		for size := int64(1); size <= 2*r.Reach+1; size++ {
			for n := range toThe(r.States, size) {
				ring := make([]int64, size)
				for i, rest := size-1, n; i >= 0; i, rest = i-1, rest/r.States {
					ring[i] = rest % r.States
				}
				wantOnly(t, "a step of a short ring", all(impl.StepRing(r, ring)), stepOf(t, r, ring))
			}
		}
	}
	// A single cell is its own neighbour on both sides, again and again.
	for _, r := range drawnRules(5) {
		for state := range r.States {
			want := r.Table[state*(toThe(r.States, 2*r.Reach+1)-1)/(r.States-1)]
			wantOnly(t, "a ring of one cell", all(impl.StepRing(r, []int64{state})), []int64{want})
		}
	}
}

func TestLongRuns(t *testing.T) {
	l := &luck{3}
	for states := int64(2); states <= 3; states++ {
		r, ring := l.rule(states, impl.MaxReach), l.states(impl.MaxRing, states)
		want := ring
		for range impl.MaxSteps {
			want = stepOf(t, r, want)
		}
		wantOnly(t, "RunRing of MaxSteps", all(impl.RunRing(r, ring, impl.MaxSteps)), want)
	}
}

func TestStepLimits(t *testing.T) {
	r, ring := ruleNumber(t, 110), []int64{0, 1, 1, 0}
	wantLimits(t, "RunRing", 0, impl.MaxSteps, func(n int64) []any { return all(impl.RunRing(r, ring, n)) })
	wantLimits(t, "RowsOfRing", 0, impl.MaxRing, func(n int64) []any { return all(impl.RowsOfRing(r, ring, n)) })
	wantLimits(t, "DamageOf", 0, impl.MaxRing, func(n int64) []any { return all(impl.DamageOf(r, ring, ring, n)) })
	wantLimits(t, "TurnRing", 0, impl.MaxRing, func(n int64) []any { return all(impl.TurnRing(ring, n)) })
	still := ruleNumber(t, 204)
	wantLimits(t, "PeriodOf", 1, 4096, func(n int64) []any { return all(impl.PeriodOf(still, ring, n)) })
	wantLimits(t, "RunsShared, steps", 0, impl.MaxSteps, func(n int64) []any { return all(impl.RunsShared(r, [][]int64{ring}, n, 1)) })
	wantLimits(t, "RunsShared, workers", 1, impl.MaxWorkers, func(n int64) []any { return all(impl.RunsShared(r, [][]int64{ring}, 1, n)) })
	wantLimits(t, "WordsOfRing", 1, 4, func(n int64) []any { return all(impl.WordsOfRing(ring, 2, n)) })
	wantLimits(t, "WordsOfRing, states", 2, 3, func(n int64) []any { return all(impl.WordsOfRing(ring, n, 1)) })
	wantLimits(t, "WordEntropy", 1, 4, func(n int64) []any { return all(impl.WordEntropy(ring, 2, n)) })
	wantLimits(t, "WordEntropy, states", 2, 3, func(n int64) []any { return all(impl.WordEntropy(ring, n, 1)) })
	wantLimits(t, "DrawRing, states", 2, 3, func(n int64) []any { return all(impl.DrawRing(n, 5, 1)) })
	wantLimits(t, "DrawRing, cells", 1, impl.MaxRing, func(n int64) []any { return all(impl.DrawRing(2, n, 1)) })
	wantLimits(t, "DrawRing, seed", 0, 4294967295, func(n int64) []any { return all(impl.DrawRing(2, 5, n)) })
	wantLimits(t, "RuleOfNumber", 0, 255, func(n int64) []any { return all(impl.RuleOfNumber(n)) })
}

// callsOfRule calls each function that takes a rule and a ring for its states.
func callsOfRule(r impl.Rule, ring []int64) map[string][]any {
	return map[string][]any{
		"StepRing":     all(impl.StepRing(r, ring)),
		"RunRing":      all(impl.RunRing(r, ring, 1)),
		"RunRing, 0":   all(impl.RunRing(r, ring, 0)),
		"RowsOfRing":   all(impl.RowsOfRing(r, ring, 1)),
		"RowsOfRing 0": all(impl.RowsOfRing(r, ring, 0)),
		"NumberOfRule": all(impl.NumberOfRule(r)),
		"MirrorRule":   all(impl.MirrorRule(r)),
		"OppositeRule": all(impl.OppositeRule(r)),
		"WiderRule":    all(impl.WiderRule(r)),
		"JoinRules":    all(impl.JoinRules(r, impl.Rule{States: 2, Table: []int64{0, 1}})),
		"JoinRules 2":  all(impl.JoinRules(impl.Rule{States: 2, Table: []int64{0, 1}}, r)),
		"IsTotal":      all(impl.IsTotal(r)),
		"IsSumRule":    all(impl.IsSumRule(r)),
		"ActiveShare":  all(impl.ActiveShare(r)),
		"SenseOf":      all(impl.SenseOf(r)),
		"SecondStep":   all(impl.SecondStep(r, ring, ring)),
		"AloneSteps":   all(impl.AloneSteps(r, ring, []int64{0})),
		"AloneSteps 0": all(impl.AloneSteps(r, ring, nil)),
		"DamageOf":     all(impl.DamageOf(r, ring, ring, 1)),
		"DamageOf, 0":  all(impl.DamageOf(r, ring, ring, 0)),
		"PeriodOf":     all(impl.PeriodOf(r, ring, 4096)),
		"RunsShared":   all(impl.RunsShared(r, [][]int64{ring}, 1, 1)),
		"RunsShared 0": all(impl.RunsShared(r, [][]int64{ring}, 0, 8)),
	}
}

func TestBadRules(t *testing.T) {
	for name, results := range callsOfRule(ruleNumber(t, 110), []int64{0}) {
		if !succeeds(results) {
			t.Errorf("%s: it failed with a rule that is valid", name)
		}
	}
	for _, r := range badRules() {
		for name, results := range callsOfRule(r, []int64{0}) {
			wantNone(t, name, results)
		}
	}
}

// callsOfRing calls each function that takes a ring, but not SecondStep and
// DamageOf.
func callsOfRing(r impl.Rule, ring []int64) map[string][]any {
	return map[string][]any{
		"StepRing":       all(impl.StepRing(r, ring)),
		"RunRing":        all(impl.RunRing(r, ring, 1)),
		"RunRing, 0":     all(impl.RunRing(r, ring, 0)),
		"RowsOfRing":     all(impl.RowsOfRing(r, ring, 1)),
		"RowsOfRing, 0":  all(impl.RowsOfRing(r, ring, 0)),
		"AloneSteps":     all(impl.AloneSteps(r, ring, []int64{0})),
		"AloneSteps 0":   all(impl.AloneSteps(r, ring, nil)),
		"PeriodOf":       all(impl.PeriodOf(r, ring, 4096)),
		"WordsOfRing":    all(impl.WordsOfRing(ring, r.States, 1)),
		"WordEntropy":    all(impl.WordEntropy(ring, r.States, 1)),
		"RunsShared":     all(impl.RunsShared(r, [][]int64{ring}, 1, 1)),
		"RunsShared, 0":  all(impl.RunsShared(r, [][]int64{ring}, 0, 8)),
		"RunsShared, 16": all(impl.RunsShared(r, append(many([]int64{0}, 15), ring), 1, 3)),
	}
}

func TestBadRings(t *testing.T) {
	for _, r := range []impl.Rule{ruleNumber(t, 110), (&luck{5}).rule(3, 1)} {
		for name, results := range callsOfRing(r, []int64{0, 1}) {
			if !succeeds(results) {
				t.Errorf("%s: it failed with a ring", name)
			}
		}
		for _, ring := range badRings(r.States) {
			for name, results := range callsOfRing(r, ring) {
				wantNone(t, name, results)
			}
			// Each of two rings of the same length must be one.
			zeros := many(int64(0), len(ring))
			wantNone(t, "SecondStep", all(impl.SecondStep(r, ring, zeros)))
			wantNone(t, "SecondStep", all(impl.SecondStep(r, zeros, ring)))
			wantNone(t, "DamageOf", all(impl.DamageOf(r, ring, zeros, 1)))
			wantNone(t, "DamageOf", all(impl.DamageOf(r, zeros, ring, 1)))
			wantNone(t, "DamageOf, 0 steps", all(impl.DamageOf(r, zeros, ring, 0)))
		}
	}
	for _, ring := range badRings(3) {
		wantNone(t, "TurnRing", all(impl.TurnRing(ring, 0)))
		wantNone(t, "LeastTurn", all(impl.LeastTurn(ring)))
	}
	r := ruleNumber(t, 110)
	for _, two := range [][2][]int64{{{0}, {0, 0}}, {{0, 0}, {0}}, {many(int64(0), 63), many(int64(0), 64)}, {{0}, nil}, {nil, {0}}, {nil, nil}} {
		wantNone(t, "SecondStep of rings of two lengths", all(impl.SecondStep(r, two[0], two[1])))
		wantNone(t, "DamageOf rings of two lengths", all(impl.DamageOf(r, two[0], two[1], 1)))
	}
}
