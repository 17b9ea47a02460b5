package tests

import (
	"fmt"
	"slices"
	"strings"
	"testing"

	"loop.example/g01381/impl"
)

// sumOf returns the sum of states.
func sumOf(cells []int64) int64 {
	var sum int64
	for _, x := range cells {
		sum += x
	}
	return sum
}

// keepsOnRings tells whether a step keeps the sum of all rings of n cells, from
// as many as a neighbourhood has up to most.
func keepsOnRings(t *testing.T, r impl.Rule, most int64) bool {
	t.Helper()
	for n := widthOf(r); n <= most; n++ {
		for _, s := range textsOf(r.States, n) {
			ring := cellsOf(s)
			if sumOf(ring) != sumOf(nextOf(t, r, ring)) {
				return false
			}
		}
	}
	return true
}

// flowing returns the rule of a reach of 1 by which each cell gives as much to
// the right as flow tells for it and the next one.
func flowing(states int64, flow func(a, b int64) int64) impl.Rule {
	return ruleTold(states, 1, func(cells string) int64 {
		a, b, c := digitAt(cells, 0), digitAt(cells, 1), digitAt(cells, 2)
		return b + flow(a, b) - flow(b, c)
	})
}

// Some flows of 3 states.
func fill(a, b int64) int64    { return min(a, 2-b) }
func oneFill(a, b int64) int64 { return min(a, 2-b, 1) }
func drop(a, b int64) int64 {
	if a == 2 && b == 0 {
		return 1
	}
	return 0
}
func backDrop(a, b int64) int64 { return -drop(b, a) }

// keepers returns rules that keep the sum.
func keepers(t *testing.T) []impl.Rule {
	t.Helper()
	var rules []impl.Rule
	for states := int64(2); states <= 3; states++ {
		for reach := int64(0); reach <= impl.MaxReach; reach++ {
			for at := range 2*reach + 1 {
				rules = append(rules, takes(states, reach, int(at)))
			}
		}
	}
	two := []impl.Rule{ruleNumber(t, 184), ruleNumber(t, 226), ruleNumber(t, 240)}
	three := []impl.Rule{flowing(3, fill), flowing(3, oneFill), flowing(3, drop), flowing(3, backDrop)}
	for _, list := range [][]impl.Rule{two, three} {
		rules = append(rules, list...)
		for _, a := range list {
			for _, b := range list {
				rules = append(rules, joined(t, a, b))
			}
		}
	}
	return rules
}

// Promise 4: rules that keep the sum keep it, and others do not keep some sum.
func TestKeepsSum(t *testing.T) {
	for _, r := range keepers(t) {
		wantOnly(t, fmt.Sprint("KeepsSum ", r), all(impl.KeepsSum(r)), true)
		if !keepsOnRings(t, r, map[int64]int64{2: 9, 3: 6}[r.States]) {
			t.Errorf("rule %v does not keep the sum", r)
		}
	}
	for n, r := range numbered(t) {
		keeps := slices.Contains([]int64{170, 184, 204, 226, 240}, int64(n))
		wantOnly(t, fmt.Sprint("KeepsSum, rule ", n), all(impl.KeepsSum(r)), keeps)
		if keepsOnRings(t, r, 6) != keeps {
			t.Errorf("rule %d: keeps the sum: not %v", n, keeps)
		}
	}
	for _, r := range append(drawnRules(5), permutedRules(3)...) {
		wantOnly(t, fmt.Sprint("KeepsSum ", r), all(impl.KeepsSum(r)), keepsOnRings(t, r, 2*widthOf(r)))
	}
	for _, s := range textsOf(3, 3) {
		wantOnly(t, "KeepsSum without a reach", all(impl.KeepsSum(impl.Rule{States: 3, Table: cellsOf(s)})), s == "012")
	}
}

// Rules that keep the sum of all rings but of one neighbourhood.
func TestNearlyKeepsSum(t *testing.T) {
	for i, r := range keepers(t) {
		for at := range r.Table {
			if len(r.Table) > 100 && (at+i)%9 > 0 && at > 0 && at < len(r.Table)-1 {
				continue
			}
			near := changedAt(r, at)
			for range r.States - 1 {
				wantOnly(t, fmt.Sprint("KeepsSum ", near), all(impl.KeepsSum(near)), false)
				wantNone(t, fmt.Sprint("FlowOf ", near), all(impl.FlowOf(near)))
				// A neighbourhood between zeros stands for itself.
				if keepsOnRings(t, near, 2*widthOf(r)-1) {
					t.Errorf("rule %v keeps the sum", near)
				}
				near = changedAt(near, at)
			}
		}
	}
}

// Each cell becomes itself, more by what flows in, and less by what flows out.
func TestFlowOf(t *testing.T) {
	l := &luck{97}
	for _, r := range keepers(t) {
		flows, ok := impl.FlowOf(r)
		if r.Reach == 0 {
			wantNone(t, "FlowOf without a reach", all(flows, ok))
			continue
		}
		if !ok || int64(len(flows)) != toThe(r.States, 2*r.Reach) || flows[0] != 0 {
			t.Errorf("FlowOf(%v): got %v, %v", r, flows, ok)
			continue
		}
		through := func(row string) int64 {
			var i int64
			for k := range row {
				i = i*r.States + digitAt(row, k)
			}
			return flows[i]
		}
		for range 30 {
			ring := l.states(widthOf(r)+l.below(20), r.States)
			next, long := nextOf(t, r, ring), int(r.Reach)
			row := strings.Repeat(textOf(ring), 3)
			for i, x := range ring {
				at := len(ring) + i
				in, out := through(row[at-long:at+long]), through(row[at-long+1:at+long+1])
				if next[i] != x+in-out {
					t.Fatalf("rule %v, ring %v, cell %d: %d in, %d out, becomes %d", r, ring, i, in, out, next[i])
				}
			}
		}
	}
}

func TestKnownFlows(t *testing.T) {
	for _, c := range []struct {
		r    impl.Rule
		want []int64
	}{
		{ruleNumber(t, 184), []int64{0, 0, 1, 0}},
		{ruleNumber(t, 226), []int64{0, -1, 0, 0}},
		{ruleNumber(t, 204), []int64{0, 0, 0, 0}},
		{ruleNumber(t, 240), []int64{0, 0, 1, 1}},
		{ruleNumber(t, 170), []int64{0, -1, 0, -1}},
		{takes(2, 2, 0), []int64{0, 0, 0, 0, 1, 1, 1, 1, 1, 1, 1, 1, 2, 2, 2, 2}},
		{takes(2, 2, 1), []int64{0, 0, 0, 0, 1, 1, 1, 1, 0, 0, 0, 0, 1, 1, 1, 1}},
		{takes(2, 2, 4), []int64{0, -1, -1, -2, 0, -1, -1, -2, 0, -1, -1, -2, 0, -1, -1, -2}},
		{takes(3, 1, 1), many(int64(0), 9)},
		{takes(3, 1, 0), []int64{0, 0, 0, 1, 1, 1, 2, 2, 2}},
		{flowing(3, fill), []int64{0, 0, 0, 1, 1, 0, 2, 1, 0}},
		{flowing(3, oneFill), []int64{0, 0, 0, 1, 1, 0, 1, 1, 0}},
		{flowing(3, drop), []int64{0, 0, 0, 0, 0, 0, 1, 0, 0}},
		{flowing(3, backDrop), []int64{0, 0, -1, 0, 0, 0, 0, 0, 0}},
	} {
		wantOnly(t, fmt.Sprint("FlowOf ", c.r), all(impl.FlowOf(c.r)), c.want)
	}
	for _, n := range []int64{0, 90, 185, 255} {
		wantNone(t, "FlowOf what is not kept", all(impl.FlowOf(ruleNumber(t, n))))
	}
	for states := int64(2); states <= 3; states++ {
		wantNone(t, "FlowOf without a reach", all(impl.FlowOf(takes(states, 0, 0))))
	}
}

// countIn returns how often a word is in a ring, by the row without end.
func countIn(ring, word string) int {
	n, row := 0, strings.Repeat(ring, 4)
	for i := range ring {
		if strings.HasPrefix(row[i:], word) {
			n++
		}
	}
	return n
}

// keepsCount tells it by all rings.
func keepsCount(t *testing.T, r impl.Rule, word string, n int64) bool {
	t.Helper()
	for _, s := range textsOf(r.States, n) {
		if countIn(s, word) != countIn(textOf(nextOf(t, r, cellsOf(s))), word) {
			return false
		}
	}
	return true
}

func TestKeepsCount(t *testing.T) {
	count := map[bool]int{}
	check := func(r impl.Rule, word string, n int64) {
		t.Helper()
		want := keepsCount(t, r, word, n)
		wantOnly(t, fmt.Sprint("KeepsCount ", r, word, n), all(impl.KeepsCount(r, cellsOf(word), n)), want)
		count[want]++
	}
	for _, r := range numbered(t) {
		for long := int64(1); long <= 3; long++ {
			for _, word := range textsOf(2, long) {
				check(r, word, 3)
				check(r, word, 5)
			}
		}
	}
	for i, r := range append(drawnRules(2), keepers(t)...) {
		for long := int64(1); long <= 3; long++ {
			words := textsOf(r.States, long)
			for n := max(widthOf(r), long); n <= map[int64]int64{2: 10, 3: 6}[r.States]; n++ {
				check(r, words[0], n)
				check(r, words[(i+3)%len(words)], n)
			}
		}
	}
	if count[true] < 200 || count[false] < 200 {
		t.Errorf("words that were looked at: %v", count)
	}
}

// A rule that keeps the sum of 2 states keeps how often 1 and 0 are there.
func TestKeepsCountOfOnes(t *testing.T) {
	for _, r := range append(keepers(t), numbered(t)...) {
		if r.States != 2 {
			continue
		}
		keeps, _ := impl.KeepsSum(r)
		always := true
		for n := widthOf(r); n <= 2*widthOf(r); n++ {
			one, ok := impl.KeepsCount(r, []int64{1}, n)
			zero, fine := impl.KeepsCount(r, []int64{0}, n)
			if !ok || !fine || one != zero || keeps && !one {
				t.Errorf("KeepsCount(%v) of 1: got %v, %v, of 0: %v, %v", r, one, ok, zero, fine)
			}
			always = always && one
		}
		if always != keeps {
			t.Errorf("rule %v: keeps the sum: %v, the count: %v", r, keeps, always)
		}
	}
}

func TestKeepsCountLimits(t *testing.T) {
	for _, r := range drawnRules(1) {
		most := map[int64]int64{2: 10, 3: 6}[r.States]
		for long := int64(1); long <= 3; long++ {
			word := wideRing(long)
			wantLimits(t, "KeepsCount", max(widthOf(r), long), most, func(n int64) []any { return all(impl.KeepsCount(r, word, n)) })
		}
		wantLimits(t, "KeepsCount, words", 1, 3, func(n int64) []any { return all(impl.KeepsCount(r, wideRing(n), most)) })
	}
}
