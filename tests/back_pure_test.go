package tests

import (
	"slices"
	"testing"

	"loop.example/g01381/impl"
)

// callsOfBack calls each function of chapter 3 with a rule, a ring of at least
// 5 cells, and a word of at most 3.
func callsOfBack(r impl.Rule, ring, word []int64) map[string][]any {
	return map[string][]any{
		"PairTable":     all(impl.PairTable(r, 0)),
		"CountBack":     all(impl.CountBack(r, ring)),
		"FirstBack":     all(impl.FirstBack(r, ring)),
		"AllBack":       all(impl.AllBack(r, ring)),
		"CountsShared":  all(impl.CountsShared(r, [][]int64{ring, ring}, 2)),
		"WordsBack":     all(impl.WordsBack(r, word)),
		"OrphanOf":      all(impl.OrphanOf(r, 7)),
		"IsOnto":        all(impl.IsOnto(r)),
		"IsOneToOne":    all(impl.IsOneToOne(r)),
		"IsEvenRule":    all(impl.IsEvenRule(r)),
		"GardensOf":     all(impl.GardensOf(r, 6)),
		"ImagesOf":      all(impl.ImagesOf(r, 6)),
		"CyclesOf":      all(impl.CyclesOf(r, 6)),
		"DepthOf":       all(impl.DepthOf(r, 6)),
		"KeepsSum":      all(impl.KeepsSum(r)),
		"KeepsCount":    all(impl.KeepsCount(r, word, 6)),
		"FlowOf":        all(impl.FlowOf(r)),
		"IsAdding":      all(impl.IsAdding(r)),
		"AddingTerms":   all(impl.AddingTerms(r)),
		"FarAhead":      all(impl.FarAhead(r, ring, 5)),
		"FarAhead, 0":   all(impl.FarAhead(r, ring, 0)),
		"AddingPeriod":  all(impl.AddingPeriod(r, 6, 4096)),
		"CanCome":       all(impl.CanCome(r, word, 1)),
		"CanCome, 0":    all(impl.CanCome(r, word, 0)),
		"WordsThatCome": all(impl.WordsThatCome(r, 2, 1)),
		"Words, 0":      all(impl.WordsThatCome(r, 2, 0)),
	}
}

func TestBackOfBadRules(t *testing.T) {
	ring, word := []int64{0, 0, 0, 0, 0, 0}, []int64{0}
	for name, results := range callsOfBack(ruleNumber(t, 240), ring, word) {
		if succeeds(results) == (name == "OrphanOf") {
			t.Errorf("%s of the rule that takes the left cell: got %v", name, results)
		}
	}
	for _, r := range badRules() {
		for name, results := range callsOfBack(r, ring, word) {
			wantNone(t, name, results)
		}
	}
}

func TestBackOfBadRings(t *testing.T) {
	for states := int64(2); states <= 3; states++ {
		r := takes(states, 1, 0)
		bad := append(badRings(states), []int64{0, 0, states}, []int64{-1, 0, 0}, []int64{0, states, 0, 0}, []int64{0}, []int64{0, 1})
		for _, ring := range bad {
			calls := callsOfBack(r, ring, []int64{0})
			for _, name := range []string{"CountBack", "FirstBack", "AllBack", "CountsShared", "FarAhead", "FarAhead, 0"} {
				wantNone(t, name, calls[name])
			}
		}
		for _, word := range badWords(states) {
			calls := callsOfBack(r, []int64{0, 0, 0}, word)
			for _, name := range []string{"WordsBack", "KeepsCount", "CanCome", "CanCome, 0"} {
				wantNone(t, name, calls[name])
			}
		}
	}
}

// allOfBack calls each function of chapter 3, in order.
func allOfBack(r impl.Rule, ring, word []int64) [][]any {
	calls := callsOfBack(r, ring, word)
	var names []string
	for name := range calls {
		names = append(names, name)
	}
	slices.Sort(names)
	var results [][]any
	for _, name := range names {
		results = append(results, calls[name])
	}
	return results
}

// Promise 1: equal results for equal arguments, no argument is changed, and
// nothing is shared.
func TestBackIsPure(t *testing.T) {
	l := &luck{109}
	rules := append(drawnRules(2), permutedRules(1)...)
	rules = append(rules, sumRules(t)[10:20]...)
	rules = append(rules, ruleNumber(t, 184), ruleNumber(t, 204), takes(3, 2, 1))
	for _, r := range append(rules, badRules()...) {
		states := min(max(r.States, 2), 3)
		for _, size := range []int64{0, 1, 2, 3, 5, 8, 16, 17, 64, 65} {
			lists := [][]int64{r.Table, l.states(size, states), l.states(min(size, 13), states)}
			wantPure(t, "rule "+shown(r)+"ring "+shown(lists[1]), lists, func(lists [][]int64) [][]any {
				return allOfBack(withTable(r, lists[0]), lists[1], lists[2])
			})
		}
	}
}

// Rules that are the same make the same, whatever was asked before.
func TestBackAgain(t *testing.T) {
	ring, word := []int64{0, 1, 1, 0, 1, 0, 0}, []int64{1, 0}
	first := shownCalls(allOfBack(ruleNumber(t, 184), ring, word))
	for n := range int64(256) {
		allOfBack(ruleNumber(t, n), ring, word)
	}
	if again := shownCalls(allOfBack(ruleNumber(t, 184), ring, word)); again != first {
		t.Errorf("got %s and then %s", first, again)
	}
}

func TestRingsBackAreApart(t *testing.T) {
	zero, ring := ruleNumber(t, 0), make([]int64, 8)
	rings, ok := impl.AllBack(zero, ring)
	if !ok || len(rings) != 256 {
		t.Fatalf("AllBack of all rings: got %d, %v", len(rings), ok)
	}
	wantApart(t, rings)
	// A ring that leads to itself is told as a new one.
	still := ruleNumber(t, 204)
	one, _ := impl.AllBack(still, ring)
	first, _ := impl.FirstBack(still, ring)
	far, _ := impl.FarAhead(still, ring, 0)
	wantApart(t, [][]int64{one[0], first, far})
	if sumOf(ring) != 0 {
		t.Errorf("a result shares memory with the ring: %v", ring)
	}
}

// The list of rings has unused capacity, too.
func TestListsOfCountsAreKept(t *testing.T) {
	rings := [][]int64{{0, 0, 0}, {0, 1, 1}, {1}, {0, 0, 0, 1}}
	want := shown(rings)
	for workers := int64(1); workers <= impl.MaxWorkers; workers++ {
		wantOnly(t, "CountsShared", all(impl.CountsShared(ruleNumber(t, 90), rings[:2], workers)), []int64{2, 2})
		wantNone(t, "CountsShared of a short ring", all(impl.CountsShared(ruleNumber(t, 90), rings[:3], workers)))
	}
	if got := shown(rings); got != want {
		t.Errorf("the list of rings was changed: got %s, want %s", got, want)
	}
}
