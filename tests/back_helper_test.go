package tests

import (
	"testing"

	"loop.example/g01381/impl"
)

// cellsOf returns the states that a text tells.
func cellsOf(s string) []int64 {
	cells := make([]int64, len(s))
	for i := range cells {
		cells[i] = digitAt(s, i)
	}
	return cells
}

// widthOf returns how many cells the neighbourhoods of a rule have.
func widthOf(r impl.Rule) int64 { return 2*r.Reach + 1 }

// nextOf returns the next ring, by the function of chapter 2.
func nextOf(t *testing.T, r impl.Rule, ring []int64) []int64 {
	t.Helper()
	next, ok := impl.StepRing(r, ring)
	if !ok {
		t.Fatalf("StepRing(%v, %v) failed", r, ring)
	}
	return next
}

// ringsBefore returns all rings of n cells, in order, by what they become.
func ringsBefore(t *testing.T, r impl.Rule, n int64) map[string][]string {
	t.Helper()
	before := map[string][]string{}
	for _, s := range textsOf(r.States, n) {
		next := textOf(nextOf(t, r, cellsOf(s)))
		before[next] = append(before[next], s)
	}
	return before
}

// wordBehind returns what a word becomes in one step, without its outer cells.
func wordBehind(t *testing.T, r impl.Rule, word string) string {
	t.Helper()
	next := ""
	for i := 0; i+int(widthOf(r)) <= len(word); i++ {
		next += string(rune('0' + told(t, r, word[i:i+int(widthOf(r))])))
	}
	return next
}

// wordsBehind returns how many words of n cells become each word by some steps.
func wordsBehind(t *testing.T, r impl.Rule, n int64, steps int) map[string]int64 {
	t.Helper()
	words := map[string]int64{}
	for _, s := range textsOf(r.States, n) {
		words[s] = 1
	}
	for range steps {
		next := map[string]int64{}
		for s, count := range words {
			next[wordBehind(t, r, s)] += count
		}
		words = next
	}
	return words
}

// takes returns the rule that takes the cell at a place of its neighbourhood.
func takes(states, reach int64, at int) impl.Rule {
	return ruleTold(states, reach, func(cells string) int64 { return digitAt(cells, at) })
}

// permuted draws a rule that tells each state once where all cells are told
// but one of the outer ones: such rules lead to each word as often.
func (l *luck) permuted(states, reach int64, left bool) impl.Rule {
	r := l.rule(states, reach)
	size := int64(len(r.Table))
	for i := range size / states {
		by, turn := l.below(states), 1+l.below(states-1)
		for x := range states {
			at := i*states + x
			if left {
				at = x*size/states + i
			}
			r.Table[at] = (by + turn*x) % states
		}
	}
	return r
}

// permutedRules returns n such rules of each kind.
func permutedRules(n int) []impl.Rule {
	l := &luck{43}
	var rules []impl.Rule
	for states := int64(2); states <= 3; states++ {
		for reach := int64(0); reach <= impl.MaxReach; reach++ {
			for i := range n {
				rules = append(rules, l.permuted(states, reach, i%2 == 0))
			}
		}
	}
	return rules
}

// changedAt returns a rule that tells the next state after its own at a place.
func changedAt(r impl.Rule, at int) impl.Rule {
	other := withTable(r, append([]int64{}, r.Table...))
	other.Table[at] = (other.Table[at] + 1) % r.States
	return other
}

// numbered returns the rules with all numbers from 0 to 255.
func numbered(t *testing.T) []impl.Rule {
	t.Helper()
	var rules []impl.Rule
	for n := range int64(256) {
		rules = append(rules, ruleNumber(t, n))
	}
	return rules
}

// joined returns the rule of a step of a and then one of b.
func joined(t *testing.T, a, b impl.Rule) impl.Rule {
	t.Helper()
	r, ok := impl.JoinRules(a, b)
	if !ok {
		t.Fatalf("JoinRules(%v, %v) failed", a, b)
	}
	return r
}

// wideRing returns n equal cells, for any number, as tests of limits have.
func wideRing(n int64) []int64 { return many(int64(0), int(min(max(n, 0), 99))) }

// badWords returns lists that are no words of some states.
func badWords(states int64) [][]int64 {
	const end = 1<<63 - 1
	return [][]int64{
		nil, {}, {states}, {-1}, {0, states}, {0, 1, -1}, {end}, {-end - 1, 0},
		many(int64(0), impl.MaxWord+1), many(int64(0), 64), append(many(int64(0), impl.MaxWord-1), states),
	}
}
