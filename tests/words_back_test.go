package tests

import (
	"testing"

	"loop.example/g01381/impl"
)

func TestWordsBack(t *testing.T) {
	for _, r := range append(drawnRules(4), permutedRules(2)...) {
		most := map[int64]int64{2: 10, 3: 7}[r.States]
		for n := int64(1); n+2*r.Reach <= most; n++ {
			before := wordsBehind(t, r, n+2*r.Reach, 1)
			for _, s := range textsOf(r.States, n) {
				wantOnly(t, "WordsBack", all(impl.WordsBack(r, cellsOf(s))), before[s])
			}
		}
	}
}

func TestLongWordsBack(t *testing.T) {
	for states := int64(2); states <= 3; states++ {
		for reach := int64(0); reach <= impl.MaxReach; reach++ {
			r := impl.Rule{States: states, Reach: reach, Table: many(int64(1), int(toThe(states, 2*reach+1)))}
			for n := int64(1); n <= impl.MaxWord; n++ {
				word := many(int64(1), int(n))
				wantOnly(t, "WordsBack of all", all(impl.WordsBack(r, word)), toThe(states, n+2*reach))
				word[n/2] = 0
				wantOnly(t, "WordsBack of none", all(impl.WordsBack(r, word)), int64(0))
			}
			wantLimits(t, "WordsBack", 1, impl.MaxWord, func(n int64) []any { return all(impl.WordsBack(r, wideRing(n))) })
		}
	}
	l := &luck{61}
	for _, r := range drawnRules(2) {
		if r.States == 2 && r.Reach > 0 {
			before := wordsBehind(t, r, impl.MaxWord+2*r.Reach, 1)
			for range 50 {
				word := l.states(impl.MaxWord, 2)
				wantOnly(t, "WordsBack of long words", all(impl.WordsBack(r, word)), before[textOf(word)])
			}
		}
	}
}

// Promise 4: rules that lead everywhere lead to each word as often, and others
// do not.
func TestWordsBackAsOften(t *testing.T) {
	l := &luck{67}
	for _, r := range permutedRules(6) {
		wantOnly(t, "IsOnto", all(impl.IsOnto(r)), true)
		for n := int64(1); n <= impl.MaxWord; n++ {
			for range 4 {
				wantOnly(t, "WordsBack of a rule that is onto", all(impl.WordsBack(r, l.states(n, r.States))), toThe(r.States, 2*r.Reach))
			}
		}
	}
	for _, r := range numbered(t) {
		onto, _ := impl.IsOnto(r)
		often := true
		for _, s := range textsOf(2, 6) {
			n, _ := impl.WordsBack(r, cellsOf(s))
			often = often && n == 4
		}
		if onto != often {
			t.Errorf("rule %v: onto: %v, as often: %v", r, onto, often)
		}
	}
}

// orphanOf looks at all words, the shortest ones first.
func orphanOf(t *testing.T, r impl.Rule, most int64) string {
	t.Helper()
	for n := int64(1); n <= most; n++ {
		before := wordsBehind(t, r, n+2*r.Reach, 1)
		for _, s := range textsOf(r.States, n) {
			if before[s] == 0 {
				return s
			}
		}
	}
	return ""
}

func TestOrphanOf(t *testing.T) {
	rules := append(drawnRules(6), numbered(t)...)
	for _, r := range permutedRules(4) {
		rules = append(rules, r, changedAt(r, len(r.Table)/2))
	}
	for _, r := range rules {
		most := map[int64]int64{2: 10, 3: 6}[r.States] - 2*r.Reach
		want := orphanOf(t, r, most)
		if want == "" {
			wantNone(t, "OrphanOf of none", all(impl.OrphanOf(r, most)))
			continue
		}
		orphan := cellsOf(want)
		wantOnly(t, "OrphanOf", all(impl.OrphanOf(r, most)), orphan)
		wantOnly(t, "OrphanOf of as many cells", all(impl.OrphanOf(r, int64(len(want)))), orphan)
		wantOnly(t, "WordsBack of an orphan", all(impl.WordsBack(r, orphan)), int64(0))
		if len(want) > 1 {
			wantNone(t, "OrphanOf of one cell less", all(impl.OrphanOf(r, int64(len(want))-1)))
		}
	}
}

// Orphans of as many cells as can be asked for.
func TestLongestOrphans(t *testing.T) {
	two := impl.Rule{States: 2, Reach: 2, Table: cellsOf("01000101011101010101101010011010")}
	wantOnly(t, "the orphan of 12 cells", all(impl.OrphanOf(two, 12)), cellsOf("000000011111"))
	wantNone(t, "of at most 11 cells", all(impl.OrphanOf(two, 11)))
	three := impl.Rule{States: 3, Reach: 1, Table: cellsOf("101221021222010100010120212")}
	wantOnly(t, "the orphan of 7 cells", all(impl.OrphanOf(three, 7)), cellsOf("0021012"))
	wantNone(t, "of at most 6 cells", all(impl.OrphanOf(three, 6)))
	for _, c := range []struct {
		r      impl.Rule
		orphan string
	}{{two, "000000011111"}, {three, "0021012"}} {
		// All words before it have one that leads to them.
		for n := int64(1); n <= int64(len(c.orphan)); n++ {
			for _, s := range textsOf(c.r.States, n) {
				if s == c.orphan {
					break
				}
				if count, ok := impl.WordsBack(c.r, cellsOf(s)); count == 0 || !ok {
					t.Fatalf("rule %v: no word leads to %s, which is before %s", c.r, s, c.orphan)
				}
			}
		}
		wantOnly(t, "WordsBack of an orphan", all(impl.WordsBack(c.r, cellsOf(c.orphan))), int64(0))
	}
	wantOnly(t, "the orphan of the rule 110", all(impl.OrphanOf(ruleNumber(t, 110), 12)), cellsOf("01010"))
}

func TestOrphanLimits(t *testing.T) {
	for states, most := range map[int64]int64{2: 12, 3: 7} {
		for reach := int64(0); reach <= impl.MaxReach; reach++ {
			zero := impl.Rule{States: states, Reach: reach, Table: make([]int64, toThe(states, 2*reach+1))}
			wantLimits(t, "OrphanOf", 1, most, func(n int64) []any { return all(impl.OrphanOf(zero, n)) })
			onto := takes(states, reach, int(reach))
			for n := int64(-1); n <= impl.MaxWord+1; n++ {
				wantNone(t, "OrphanOf of a rule that is onto", all(impl.OrphanOf(onto, n)))
			}
		}
	}
	// The first words of all lengths are not orphans where 0 stays.
	wantOnly(t, "OrphanOf, the last state", all(impl.OrphanOf(impl.Rule{States: 3, Table: []int64{0, 1, 0}}, 7)), []int64{2})
	wantOnly(t, "OrphanOf, the state between", all(impl.OrphanOf(impl.Rule{States: 3, Table: []int64{0, 2, 0}}, 1)), []int64{1})
}

// fitsWords reports whether so long words can be asked for, behind some steps.
func fitsWords(r impl.Rule, n int64, times int) bool {
	return n+2*r.Reach*int64(times) <= map[int64]int64{2: 14, 3: 9}[r.States]
}

// Words that can come are those that come of some word, and no others.
func TestWordsThatCome(t *testing.T) {
	for i, r := range drawnRules(4) {
		for times := 0; times <= 4; times++ {
			for n := int64(1); n <= 5; n++ {
				long := n + 2*r.Reach*int64(times)
				if !fitsWords(r, n, times) {
					wantNone(t, "WordsThatCome of long words", all(impl.WordsThatCome(r, n, int64(times))))
					wantNone(t, "CanCome of long words", all(impl.CanCome(r, wideRing(n), int64(times))))
					continue
				}
				if i%4 != 0 && toThe(r.States, long) > 1000 {
					continue
				}
				before := wordsBehind(t, r, long, times)
				wantOnly(t, "WordsThatCome", all(impl.WordsThatCome(r, n, int64(times))), int64(len(before)))
				for _, s := range textsOf(r.States, min(n, 4)) {
					s += textOf(make([]int64, n-min(n, 4)))
					wantOnly(t, "CanCome", all(impl.CanCome(r, cellsOf(s), int64(times))), before[s] > 0)
				}
			}
		}
	}
}

// What can come behind one step are the words to which some word leads.
func TestOrphansNeverCome(t *testing.T) {
	for _, r := range append(numbered(t), drawnRules(2)...) {
		most := map[int64]int64{2: 12, 3: 7}[r.States]
		if orphan, ok := impl.OrphanOf(r, most); ok && fitsWords(r, int64(len(orphan)), 1) {
			wantOnly(t, "CanCome of an orphan", all(impl.CanCome(r, orphan, 1)), false)
			wantOnly(t, "CanCome of an orphan, 0 steps", all(impl.CanCome(r, orphan, 0)), true)
			n, _ := impl.WordsThatCome(r, int64(len(orphan)), 1)
			if n >= toThe(r.States, int64(len(orphan))) {
				t.Errorf("rule %v: %d words come, and not %v", r, n, orphan)
			}
		}
	}
	for _, r := range permutedRules(2) {
		if fitsWords(r, 3, 1) {
			wantOnly(t, "WordsThatCome of a rule that is onto", all(impl.WordsThatCome(r, 3, 1)), toThe(r.States, 3))
		}
	}
}

func TestComingLimits(t *testing.T) {
	for _, c := range []struct{ states, reach, times, most int64 }{
		{2, 0, 0, 12}, {2, 0, 4, 12}, {2, 1, 0, 12}, {2, 1, 1, 12}, {2, 1, 2, 10}, {2, 1, 4, 6},
		{2, 2, 1, 10}, {2, 2, 2, 6}, {2, 2, 3, 2}, {2, 2, 4, 0},
		{3, 0, 0, 9}, {3, 0, 4, 9}, {3, 1, 0, 9}, {3, 1, 1, 7}, {3, 1, 3, 3}, {3, 1, 4, 1},
		{3, 2, 0, 9}, {3, 2, 1, 5}, {3, 2, 2, 1}, {3, 2, 3, 0}, {3, 2, 4, 0},
	} {
		r := (&luck{71}).rule(c.states, c.reach)
		what := shown(c)
		wantLimits(t, "WordsThatCome "+what, 1, c.most, func(n int64) []any { return all(impl.WordsThatCome(r, n, c.times)) })
		wantLimits(t, "CanCome "+what, 1, c.most, func(n int64) []any { return all(impl.CanCome(r, wideRing(n), c.times)) })
	}
	r := ruleNumber(t, 30)
	wantLimits(t, "WordsThatCome, steps", 0, 4, func(n int64) []any { return all(impl.WordsThatCome(r, 2, n)) })
	wantLimits(t, "CanCome, steps", 0, 4, func(n int64) []any { return all(impl.CanCome(r, []int64{0, 1}, n)) })
	flip := impl.Rule{States: 3, Table: []int64{1, 0, 0}}
	wantLimits(t, "WordsThatCome, steps, no reach", 0, 4, func(n int64) []any { return all(impl.WordsThatCome(flip, 9, n)) })
	for times, want := range []int64{3, 2, 2, 2, 2} {
		wantOnly(t, "WordsThatCome without a reach", all(impl.WordsThatCome(flip, 1, int64(times))), want)
		wantOnly(t, "WordsThatCome without a reach", all(impl.WordsThatCome(flip, 9, int64(times))), toThe(want, 9))
	}
	// As many words as can be asked for, all of which there are.
	for _, s := range []int64{2, 3} {
		n := map[int64]int64{2: 12, 3: 7}[s]
		wantOnly(t, "all words", all(impl.WordsThatCome(takes(s, 1, 0), n, 1)), toThe(s, n))
		wantOnly(t, "all words behind steps", all(impl.WordsThatCome(takes(s, 1, 2), n-6, 4)), toThe(s, n-6))
	}
}
