package tests

import (
	"fmt"
	"slices"
	"testing"

	"loop.example/g01381/impl"
)

// The numbers of all rules of 2 states and a reach of 1 that are onto, and of
// those that are one to one.
var (
	ontoNumbers = []int64{
		15, 30, 45, 51, 60, 75, 85, 86, 89, 90, 101, 102, 105, 106, 120,
		135, 149, 150, 153, 154, 165, 166, 169, 170, 180, 195, 204, 210, 225, 240,
	}
	singleNumbers = []int64{15, 51, 85, 170, 204, 240}
)

func TestOntoNumbers(t *testing.T) {
	for n, r := range numbered(t) {
		wantOnly(t, fmt.Sprint("IsOnto, rule ", n), all(impl.IsOnto(r)), slices.Contains(ontoNumbers, int64(n)))
		wantOnly(t, fmt.Sprint("IsOneToOne, rule ", n), all(impl.IsOneToOne(r)), slices.Contains(singleNumbers, int64(n)))
	}
}

// ontoBySets goes through all sets of ends, as the document tells it, and tells
// whether that without ends never comes. It gives up behind many sets.
func ontoBySets(r impl.Rule) (onto, ended bool) {
	ends := toThe(r.States, 2*r.Reach)
	type set [81]bool
	var first set
	for i := range ends {
		first[i] = true
	}
	seen, open := map[set]bool{first: true}, []set{first}
	for len(open) > 0 {
		from := open[0]
		open = open[1:]
		for state := range r.States {
			var next set
			for i, told := range r.Table {
				if told == state && from[int64(i)/r.States] {
					next[int64(i)%ends] = true
				}
			}
			if next == (set{}) {
				return false, true
			}
			if !seen[next] {
				seen[next] = true
				open = append(open, next)
			}
		}
		if len(seen) > 2000 {
			return false, false
		}
	}
	return true, true
}

// evenRule draws a rule that tells each state as often.
func (l *luck) evenRule(states, reach int64) impl.Rule {
	r := l.rule(states, reach)
	for i := range r.Table {
		k := l.below(int64(i) + 1)
		r.Table[i], r.Table[k] = r.Table[k], int64(i)%states
	}
	return r
}

// rulesForOnto returns rules of all kinds, among which are many that are onto,
// and many that are nearly so.
func rulesForOnto(t *testing.T) []impl.Rule {
	l := &luck{73}
	rules := append(drawnRules(4), permutedRules(8)...)
	for _, r := range permutedRules(4) {
		size := int64(len(r.Table))
		near := withTable(r, slices.Clone(r.Table))
		i, k := l.below(size), l.below(size)
		near.Table[i], near.Table[k] = near.Table[k], near.Table[i]
		rules = append(rules, near, changedAt(r, int(i)), l.evenRule(r.States, r.Reach))
	}
	for _, a := range ontoNumbers {
		b := ontoNumbers[l.below(int64(len(ontoNumbers)))]
		c := singleNumbers[l.below(int64(len(singleNumbers)))]
		rules = append(rules, joined(t, ruleNumber(t, a), ruleNumber(t, b)), joined(t, ruleNumber(t, c), ruleNumber(t, a)), joined(t, ruleNumber(t, a), ruleNumber(t, l.below(256))))
	}
	return rules
}

func TestIsOnto(t *testing.T) {
	count := map[bool]int{}
	for _, r := range rulesForOnto(t) {
		want, ended := ontoBySets(r)
		if ended {
			wantOnly(t, fmt.Sprint("IsOnto ", r), all(impl.IsOnto(r)), want)
			count[want]++
		}
	}
	if count[true] < 80 || count[false] < 60 {
		t.Errorf("rules that were looked at: %v", count)
	}
}

// For rules with many sets of ends, a long way is told by what it is made of: a
// rule of two steps is onto if both steps are.
func TestOntoByParts(t *testing.T) {
	l := &luck{79}
	count := map[bool]int{}
	for range 60 {
		parts := []impl.Rule{l.permuted(3, 1, true), l.permuted(3, 1, false), takes(3, 1, 0), l.evenRule(3, 1), l.rule(3, 1)}
		a, b := parts[l.below(5)], parts[l.below(5)]
		one, _ := impl.IsOnto(a)
		two, _ := impl.IsOnto(b)
		wantOnly(t, "IsOnto of two steps", all(impl.IsOnto(joined(t, a, b))), one && two)
		count[one && two]++
	}
	for _, left := range []bool{true, false} {
		for range 10 {
			r := l.permuted(3, 2, left)
			wantOnly(t, "IsOnto of 81 ends", all(impl.IsOnto(r)), true)
			wantOnly(t, "IsOnto, one next state changed", all(impl.IsOnto(changedAt(r, int(l.below(243))))), false)
		}
	}
	if count[true] < 10 || count[false] < 10 {
		t.Errorf("rules that were looked at: %v", count)
	}
}

// Rules that are onto have no orphans, and tell all states as often.
func TestOntoRulesHaveNoOrphans(t *testing.T) {
	for _, r := range rulesForOnto(t) {
		onto, _ := impl.IsOnto(r)
		even, _ := impl.IsEvenRule(r)
		_, orphan := impl.OrphanOf(r, map[int64]int64{2: impl.MaxWord, 3: 7}[r.States])
		if onto && (orphan || !even) {
			t.Errorf("rule %v is onto: has an orphan: %v, is even: %v", r, orphan, even)
		}
	}
}

// singleByPairs looks for rounds through each pair of different ends, as the
// document tells it.
func singleByPairs(r impl.Rule) bool {
	if r.Reach == 0 {
		return len(slices.Compact(slices.Sorted(slices.Values(r.Table)))) == len(r.Table)
	}
	ends := toThe(r.States, 2*r.Reach)
	for start := range ends * ends {
		if start/ends == start%ends {
			continue
		}
		seen, open := make([]bool, ends*ends), []int64{start}
		for len(open) > 0 {
			from := open[len(open)-1]
			open = open[:len(open)-1]
			for x := range r.States {
				for y := range r.States {
					a, b := from/ends*r.States+x, from%ends*r.States+y
					to := a%ends*ends + b%ends
					if r.Table[a] == r.Table[b] && !seen[to] {
						seen[to] = true
						open = append(open, to)
					}
				}
			}
		}
		if seen[start] {
			return false
		}
	}
	return true
}

// flips returns the rule of 2 states that changes a cell, where 0 is before it,
// and 1 and 0 are behind it; this leads back what it has led away.
func flips() impl.Rule {
	return ruleTold(2, 2, func(cells string) int64 {
		if cells[1] == '0' && cells[3:] == "10" {
			return 1 - digitAt(cells, 2)
		}
		return digitAt(cells, 2)
	})
}

// exchanges returns the rule of 3 states that exchanges 0 and 1 behind a 2.
func exchanges() impl.Rule {
	return ruleTold(3, 1, func(cells string) int64 {
		if cells[0] == '2' && cells[1] != '2' {
			return 1 - digitAt(cells, 1)
		}
		return digitAt(cells, 1)
	})
}

func TestIsOneToOne(t *testing.T) {
	rules := append(rulesForOnto(t), flips(), changedAt(flips(), 9))
	for _, a := range singleNumbers {
		for _, b := range singleNumbers {
			rules = append(rules, joined(t, ruleNumber(t, a), ruleNumber(t, b)))
		}
	}
	for reach := int64(0); reach <= 1; reach++ {
		for at := range 2*reach + 1 {
			rules = append(rules, takes(3, reach, int(at)))
		}
	}
	rules = append(rules, exchanges())
	count := map[bool]int{}
	for _, r := range rules {
		if r.States == 3 && r.Reach == 2 {
			wantNone(t, "IsOneToOne, 3 states and a reach of 2", all(impl.IsOneToOne(r)))
			continue
		}
		want := singleByPairs(r)
		wantOnly(t, fmt.Sprint("IsOneToOne ", r), all(impl.IsOneToOne(r)), want)
		count[want]++
	}
	if count[true] < 40 || count[false] < 40 {
		t.Errorf("rules that were looked at: %v", count)
	}
	wantOnly(t, "IsOneToOne, 0 and 1 exchanged behind a 2", all(impl.IsOneToOne(exchanges())), true)
}

// Two different rings lead to one for rules that are not one to one, and never
// for others.
func TestOneToOneOnRings(t *testing.T) {
	rules := append(numbered(t), flips())
	for _, r := range append(drawnRules(3), permutedRules(4)...) {
		if r.States == 2 || r.Reach < 2 {
			rules = append(rules, r)
		}
	}
	for _, r := range rules {
		single := true
		most := map[int64]int64{2: 9, 3: 6}[r.States]
		for n := int64(1); n <= most && single; n++ {
			single = int64(len(ringsBefore(t, r, n))) == toThe(r.States, n)
		}
		wantOnly(t, fmt.Sprint("IsOneToOne ", r), all(impl.IsOneToOne(r)), single)
	}
}

// The rule that changes cells between others leads back by itself.
func TestFlips(t *testing.T) {
	wantOnly(t, "IsOneToOne", all(impl.IsOneToOne(flips())), true)
	wantOnly(t, "IsOnto", all(impl.IsOnto(flips())), true)
	for at := range 32 {
		wantOnly(t, "IsOneToOne, one next state changed", all(impl.IsOneToOne(changedAt(flips(), at))), false)
		wantOnly(t, "IsOnto, one next state changed", all(impl.IsOnto(changedAt(flips(), at))), false)
	}
	l := &luck{83}
	for n := int64(5); n <= impl.MaxBack; n++ {
		ring := l.states(n, 2)
		wantOnly(t, "what leads back", all(impl.AllBack(flips(), ring)), [][]int64{nextOf(t, flips(), ring)})
	}
}

func TestOntoWithoutReach(t *testing.T) {
	for states := int64(2); states <= 3; states++ {
		for _, s := range textsOf(states, states) {
			r := impl.Rule{States: states, Table: cellsOf(s)}
			want := len(slices.Compact(slices.Sorted(slices.Values(r.Table)))) == int(states)
			wantOnly(t, "IsOnto "+s, all(impl.IsOnto(r)), want)
			wantOnly(t, "IsOneToOne "+s, all(impl.IsOneToOne(r)), want)
			wantOnly(t, "IsEvenRule "+s, all(impl.IsEvenRule(r)), want)
		}
	}
}

func TestIsEvenRule(t *testing.T) {
	l := &luck{89}
	for states := int64(2); states <= 3; states++ {
		for reach := int64(0); reach <= impl.MaxReach; reach++ {
			for range 10 {
				r := l.evenRule(states, reach)
				wantOnly(t, "IsEvenRule", all(impl.IsEvenRule(r)), true)
				wantOnly(t, "IsEvenRule, one next state changed", all(impl.IsEvenRule(changedAt(r, int(l.below(int64(len(r.Table))))))), false)
			}
			for state := range states {
				one := impl.Rule{States: states, Reach: reach, Table: many(state, int(toThe(states, 2*reach+1)))}
				wantOnly(t, "IsEvenRule of one state", all(impl.IsEvenRule(one)), false)
				two := withTable(one, slices.Clone(one.Table))
				for i := range two.Table {
					two.Table[i] = (state + int64(i)%2) % states
				}
				wantOnly(t, "IsEvenRule of two states", all(impl.IsEvenRule(two)), states == 2)
			}
		}
	}
}
