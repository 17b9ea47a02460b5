package tests

import (
	"fmt"
	"slices"
	"testing"

	"loop.example/g01381/impl"
)

// sumRule returns the rule of weights that are told as a text.
func sumRule(t *testing.T, states int64, weights string) impl.Rule {
	t.Helper()
	r, ok := impl.SumRule(states, cellsOf(weights))
	if !ok {
		t.Fatalf("SumRule(%d, %s) failed", states, weights)
	}
	return r
}

// addsPairs adds all pairs of neighbourhoods.
func addsPairs(t *testing.T, r impl.Rule) bool {
	t.Helper()
	list := neighbourhoods(r.States, r.Reach)
	for i, a := range list {
		for k, b := range list {
			var at int64
			for c := range a {
				at = at*r.States + (digitAt(a, c)+digitAt(b, c))%r.States
			}
			if r.Table[at] != (r.Table[i]+r.Table[k])%r.States {
				return false
			}
		}
	}
	return true
}

func TestIsAdding(t *testing.T) {
	rules := append(numbered(t), drawnRules(3)...)
	for _, s := range textsOf(3, 3) {
		rules = append(rules, impl.Rule{States: 3, Table: cellsOf(s)})
		r := sumRule(t, 3, s)
		rules = append(rules, r, changedAt(r, 0), changedAt(r, 13), changedAt(r, 26))
	}
	for _, s := range textsOf(2, 5) {
		r := sumRule(t, 2, s)
		rules = append(rules, r, changedAt(r, 0), changedAt(r, 31), changedAt(r, 16), changedAt(r, 3))
	}
	for _, s := range []string{"00000", "12012", "22222", "00001", "20000"} {
		r := sumRule(t, 3, s)
		rules = append(rules, r, changedAt(r, 0), changedAt(r, 1), changedAt(r, 100), changedAt(r, 242))
	}
	count := map[bool]int{}
	for _, r := range rules {
		want := addsPairs(t, r)
		wantOnly(t, fmt.Sprint("IsAdding ", r), all(impl.IsAdding(r)), want)
		wantOnly(t, fmt.Sprint("IsSumRule ", r), all(impl.IsSumRule(r)), want)
		if !want {
			wantNone(t, "AddingTerms", all(impl.AddingTerms(r)))
			wantNone(t, "FarAhead", all(impl.FarAhead(r, many(int64(0), 9), 0)))
			wantNone(t, "AddingPeriod", all(impl.AddingPeriod(r, 9, 4096)))
		}
		count[want]++
	}
	if count[true] != 8+2+3+27+32+5 {
		t.Errorf("rules that were looked at: %v", count)
	}
}

func TestAddingTerms(t *testing.T) {
	for states := int64(2); states <= 3; states++ {
		for reach := int64(0); reach <= impl.MaxReach; reach++ {
			for _, s := range neighbourhoods(states, reach) {
				r := sumRule(t, states, s)
				wantOnly(t, "AddingTerms", all(impl.AddingTerms(r)), cellsOf(s))
				again, ok := impl.SumRule(states, cellsOf(s))
				if !ok || !impl.SameRule(again, r) {
					t.Errorf("the rule of the terms %s: got %v, %v", s, again, ok)
				}
			}
		}
	}
	wantOnly(t, "AddingTerms, the left cell", all(impl.AddingTerms(ruleNumber(t, 240))), []int64{1, 0, 0})
	wantOnly(t, "AddingTerms, the right cell", all(impl.AddingTerms(ruleNumber(t, 170))), []int64{0, 0, 1})
}

// sumRules returns rules that add, of all kinds.
func sumRules(t *testing.T) []impl.Rule {
	t.Helper()
	var rules []impl.Rule
	for _, s := range []string{"0", "1", "000", "101", "111", "110", "011", "100", "010", "10101", "11111", "10010", "00001", "11011"} {
		rules = append(rules, sumRule(t, 2, s), sumRule(t, 3, s))
	}
	for _, s := range []string{"2", "120", "202", "012", "12021", "20001", "22222", "10002"} {
		rules = append(rules, sumRule(t, 3, s))
	}
	return rules
}

// Rules that add go as far in few steps as in many.
func TestFarAhead(t *testing.T) {
	l := &luck{101}
	for _, r := range sumRules(t) {
		for _, n := range []int64{widthOf(r), widthOf(r) + 1, 7, 8, 12, 63, impl.MaxRing} {
			ring := l.states(n, r.States)
			now := ring
			for times := int64(0); times <= 40; times++ {
				wantOnly(t, "FarAhead", all(impl.FarAhead(r, ring, times)), now)
				now = nextOf(t, r, now)
			}
			for _, times := range []int64{100, 511, 512, 999, 1000} {
				end, _ := impl.RunRing(r, ring, times)
				wantOnly(t, "FarAhead", all(impl.FarAhead(r, ring, times)), end)
			}
		}
	}
}

// Very many steps, against those that are left when all rounds are taken away.
func TestVeryFarAhead(t *testing.T) {
	l := &luck{103}
	count := 0
	for _, r := range sumRules(t) {
		for _, n := range []int64{widthOf(r), 6, 10, 17, 31, 48, impl.MaxRing} {
			ring := l.states(n, r.States)
			first, again, ok := impl.PeriodOf(r, ring, 4096)
			if !ok {
				continue
			}
			count++
			for _, times := range []int64{1000000000000, 999999999999, 1<<39 - 1, 1 << 39, 4294967296, 123456789012} {
				now := ring
				for left := first + (times-first)%again; left > 0; left -= min(left, impl.MaxSteps) {
					now, _ = impl.RunRing(r, now, min(left, impl.MaxSteps))
				}
				wantOnly(t, "FarAhead", all(impl.FarAhead(r, ring, times)), now)
			}
		}
	}
	if count < 150 {
		t.Errorf("only %d rings were looked at", count)
	}
}

// Steps behind steps are as many together, and sums of rings become sums.
func TestFarAheadAdds(t *testing.T) {
	l := &luck{107}
	for _, r := range sumRules(t) {
		a, b := l.states(impl.MaxRing, r.States), l.states(impl.MaxRing, r.States)
		one, two := 1+l.below(1<<30)*400, l.below(1<<30)*400
		half, _ := impl.FarAhead(r, a, one)
		whole, _ := impl.FarAhead(r, a, one+two)
		wantOnly(t, "FarAhead of FarAhead", all(impl.FarAhead(r, half, two)), whole)
		sums, ends := make([]int64, impl.MaxRing), make([]int64, impl.MaxRing)
		other, _ := impl.FarAhead(r, b, one)
		for i := range sums {
			sums[i], ends[i] = (a[i]+b[i])%r.States, (half[i]+other[i])%r.States
		}
		wantOnly(t, "FarAhead of a sum", all(impl.FarAhead(r, sums, one)), ends)
	}
}

func TestFarAheadLimits(t *testing.T) {
	for _, r := range sumRules(t) {
		ring := many(int64(1), 9)
		wantLimits(t, "FarAhead", 0, 1000000000000, func(n int64) []any { return all(impl.FarAhead(r, ring, n)) })
		wantLimits(t, "FarAhead, rings", widthOf(r), impl.MaxRing, func(n int64) []any { return all(impl.FarAhead(r, wideRing(n), 3)) })
		wantLimits(t, "FarAhead, rings, 0 steps", widthOf(r), impl.MaxRing, func(n int64) []any { return all(impl.FarAhead(r, wideRing(n), 0)) })
	}
}

// addingPeriod looks for steps that make the same of all rings.
func addingPeriod(t *testing.T, r impl.Rule, n int64) (begin, period int64) {
	t.Helper()
	size := toThe(r.States, n)
	behind, now := make([]int64, size), make([]int64, size)
	texts := textsOf(r.States, n)
	for i, s := range texts {
		next := textOf(nextOf(t, r, cellsOf(s)))
		at, _ := slices.BinarySearch(texts, next)
		behind[i], now[i] = int64(at), int64(i)
	}
	came := map[string]int64{}
	for steps := int64(0); ; steps++ {
		key := fmt.Sprint(now)
		if first, ok := came[key]; ok {
			return first, steps - first
		}
		came[key] = steps
		for i, x := range now {
			now[i] = behind[x]
		}
	}
}

func TestAddingPeriod(t *testing.T) {
	for _, r := range sumRules(t) {
		for n := widthOf(r); n <= map[int64]int64{2: 8, 3: 5}[r.States]; n++ {
			begin, period := addingPeriod(t, r, n)
			for _, most := range []int64{begin + period, 4096} {
				b, p, ok := impl.AddingPeriod(r, n, most)
				if !ok || b != begin || p != period {
					t.Errorf("AddingPeriod(%v, %d, %d): got %d, %d, %v, want %d, %d", r, n, most, b, p, ok, begin, period)
				}
			}
			wantNone(t, "AddingPeriod, most passed by one", all(impl.AddingPeriod(r, n, begin+period-1)))
		}
	}
}

func TestKnownAddingPeriods(t *testing.T) {
	for _, c := range []struct {
		states        int64
		weights       string
		n             int64
		begin, period int64
	}{
		{2, "010", 64, 0, 1},
		{2, "000", 3, 1, 1},
		{3, "2", 1, 0, 2},
		{2, "100", 64, 0, 64},
		{3, "00002", 64, 0, 32},
		{3, "00002", 5, 0, 10},
		{2, "101", 64, 32, 1},
		{2, "101", 63, 1, 63},
		{2, "111", 35, 0, 4095},
		{2, "111", 45, 1, 4095},
		{2, "11111", 45, 1, 4095},
	} {
		r := sumRule(t, c.states, c.weights)
		for most := c.begin + c.period - 1; most <= c.begin+c.period+1; most++ {
			got := all(impl.AddingPeriod(r, c.n, most))
			if most < c.begin+c.period || most > 4096 {
				wantNone(t, fmt.Sprint("AddingPeriod ", c, most), got)
			} else if shown(got...) != shown(c.begin, c.period, true) {
				t.Errorf("AddingPeriod %v with %d: got %v", c, most, got)
			}
		}
	}
	// The rule 90 comes again on 37 cells behind 87381 steps only.
	wantNone(t, "AddingPeriod of a long round", all(impl.AddingPeriod(ruleNumber(t, 90), 37, 4096)))
}

func TestAddingPeriodLimits(t *testing.T) {
	for states := int64(2); states <= 3; states++ {
		for reach := int64(0); reach <= impl.MaxReach; reach++ {
			still := takes(states, reach, int(reach))
			wantLimits(t, "AddingPeriod, cells", widthOf(still), impl.MaxRing, func(n int64) []any { return all(impl.AddingPeriod(still, n, 1)) })
			wantLimits(t, "AddingPeriod, most", 1, 4096, func(n int64) []any { return all(impl.AddingPeriod(still, 9, n)) })
		}
	}
}
