package tests

import (
	"slices"
	"strings"
	"testing"

	"loop.example/g01381/impl"
)

// ruleTold returns the rule that tells for each neighbourhood, told as a text,
// what tell returns.
func ruleTold(states, reach int64, tell func(cells string) int64) impl.Rule {
	r := impl.Rule{States: states, Reach: reach}
	for _, cells := range neighbourhoods(states, reach) {
		r.Table = append(r.Table, tell(cells))
	}
	return r
}

// backwards returns a text from the right to the left.
func backwards(s string) string {
	bytes := []byte(s)
	slices.Reverse(bytes)
	return string(bytes)
}

func TestRuleNumbers(t *testing.T) {
	for n := range int64(256) {
		want := impl.Rule{States: 2, Reach: 1}
		for i := range 8 {
			want.Table = append(want.Table, n>>i%2)
		}
		wantOnly(t, "RuleOfNumber", all(impl.RuleOfNumber(n)), want)
		wantOnly(t, "NumberOfRule", all(impl.NumberOfRule(want)), n)
	}
	for _, r := range drawnRules(2) {
		if r.States != 2 || r.Reach != 1 {
			wantNone(t, "NumberOfRule of another kind", all(impl.NumberOfRule(r)))
		}
	}
}

func TestTotalRule(t *testing.T) {
	l := &luck{17}
	for states := int64(2); states <= 3; states++ {
		for reach := int64(0); reach <= impl.MaxReach; reach++ {
			size := (2*reach+1)*(states-1) + 1
			for range 20 {
				told := l.states(size, states)
				want := ruleTold(states, reach, func(cells string) int64 {
					return told[strings.Count(cells, "1")+2*strings.Count(cells, "2")]
				})
				wantOnly(t, "TotalRule", all(impl.TotalRule(states, reach, told)), want)
				wantOnly(t, "IsTotal of a total rule", all(impl.IsTotal(want)), true)
			}
			for _, n := range []int64{0, 1, size - 1, size + 1, size + 2} {
				if n != size {
					wantNone(t, "TotalRule of another length", all(impl.TotalRule(states, reach, make([]int64, n))))
				}
			}
			for _, at := range []int64{0, size - 1} {
				for _, bad := range []int64{-1, states, 1 << 62} {
					told := make([]int64, size)
					told[at] = bad
					wantNone(t, "TotalRule of what is no state", all(impl.TotalRule(states, reach, told)))
				}
			}
		}
	}
	wantLimits(t, "TotalRule, states", 2, 3, func(n int64) []any {
		return all(impl.TotalRule(n, 0, many(int64(0), int(min(max(n, 0), 9)))))
	})
	wantLimits(t, "TotalRule, reach", 0, impl.MaxReach, func(n int64) []any {
		return all(impl.TotalRule(2, n, many(int64(0), int(min(max(2*min(n, 9)+2, 0), 9)))))
	})
	wantNone(t, "TotalRule of none", all(impl.TotalRule(2, -1, nil)))
	wantNone(t, "TotalRule of one state", all(impl.TotalRule(1, 0, []int64{0})))
}

func TestSumRule(t *testing.T) {
	for states := int64(2); states <= 3; states++ {
		for reach := int64(0); reach <= impl.MaxReach; reach++ {
			for _, text := range neighbourhoods(states, reach) {
				var weights []int64
				for i := range text {
					weights = append(weights, digitAt(text, i))
				}
				want := ruleTold(states, reach, func(cells string) int64 {
					var sum int64
					for i := range cells {
						sum += digitAt(cells, i) * weights[i]
					}
					return sum % states
				})
				wantOnly(t, "SumRule", all(impl.SumRule(states, weights)), want)
				wantOnly(t, "IsSumRule of a sum rule", all(impl.IsSumRule(want)), true)
			}
			for _, bad := range []int64{-1, states, 1 << 62} {
				for at := range 2*reach + 1 {
					weights := make([]int64, 2*reach+1)
					weights[at] = bad
					wantNone(t, "SumRule of what is no weight", all(impl.SumRule(states, weights)))
				}
			}
		}
		for _, n := range []int{0, 2, 4, 6, 7, 8, 9, 100} {
			wantNone(t, "SumRule of so many weights", all(impl.SumRule(states, many(int64(0), n))))
		}
	}
	wantLimits(t, "SumRule, states", 2, 3, func(n int64) []any { return all(impl.SumRule(n, []int64{0, 1, 0})) })
}

// The weights stand from the left to the right.
func TestSumRuleTurns(t *testing.T) {
	left, _ := impl.SumRule(3, []int64{2, 0, 0})
	wantOnly(t, "twice the left cell", all(impl.StepRing(left, []int64{0, 1, 2, 0})), []int64{0, 0, 2, 1})
	right, _ := impl.SumRule(3, []int64{0, 0, 0, 1, 0})
	wantOnly(t, "the right cell", all(impl.StepRing(right, []int64{0, 1, 2, 0})), []int64{1, 2, 0, 0})
}

func TestMirrorRule(t *testing.T) {
	for _, r := range drawnRules(8) {
		want := ruleTold(r.States, r.Reach, func(cells string) int64 { return told(t, r, backwards(cells)) })
		wantOnly(t, "MirrorRule", all(impl.MirrorRule(r)), want)
		wantOnly(t, "MirrorRule twice", all(impl.MirrorRule(want)), r)
		for _, ring := range drawnRings(r.States) {
			next, _ := impl.StepRing(want, mirrored(ring))
			wantOnly(t, "a step of the mirror", all(impl.StepRing(r, ring)), mirrored(next))
		}
	}
}

// mirrored returns a list from the right to the left.
func mirrored(list []int64) []int64 {
	list = slices.Clone(list)
	slices.Reverse(list)
	return list
}

// opposites returns a list of states with the opposites of all.
func opposites(list []int64, states int64) []int64 {
	list = slices.Clone(list)
	for i, x := range list {
		list[i] = states - 1 - x
	}
	return list
}

func TestOppositeRule(t *testing.T) {
	for _, r := range drawnRules(8) {
		turn := strings.NewReplacer("0", "1", "1", "0")
		if r.States == 3 {
			turn = strings.NewReplacer("0", "2", "2", "0")
		}
		want := ruleTold(r.States, r.Reach, func(cells string) int64 {
			return r.States - 1 - told(t, r, turn.Replace(cells))
		})
		wantOnly(t, "OppositeRule", all(impl.OppositeRule(r)), want)
		wantOnly(t, "OppositeRule twice", all(impl.OppositeRule(want)), r)
		for _, ring := range drawnRings(r.States) {
			next, _ := impl.StepRing(want, opposites(ring, r.States))
			wantOnly(t, "a step of the opposite", all(impl.StepRing(r, ring)), opposites(next, r.States))
		}
	}
}

func TestWiderRule(t *testing.T) {
	for _, r := range drawnRules(8) {
		if r.Reach == impl.MaxReach {
			wantNone(t, "WiderRule of MaxReach", all(impl.WiderRule(r)))
			continue
		}
		want := ruleTold(r.States, r.Reach+1, func(cells string) int64 { return told(t, r, cells[1:len(cells)-1]) })
		wantOnly(t, "WiderRule", all(impl.WiderRule(r)), want)
		for _, ring := range drawnRings(r.States) {
			next, _ := impl.StepRing(want, ring)
			wantOnly(t, "a step of the wider rule", all(impl.StepRing(r, ring)), next)
		}
	}
}

func TestJoinRules(t *testing.T) {
	rules := drawnRules(4)
	for _, a := range rules {
		for _, b := range rules {
			joined, ok := impl.JoinRules(a, b)
			if a.States != b.States || a.Reach+b.Reach > impl.MaxReach {
				wantNone(t, "JoinRules that do not fit", all(joined, ok))
				continue
			}
			if !ok || !impl.ValidRule(joined) || joined.States != a.States || joined.Reach != a.Reach+b.Reach {
				t.Errorf("JoinRules of %v and %v: got %v, %v", a, b, joined, ok)
				continue
			}
			for _, ring := range drawnRings(a.States) {
				wantOnly(t, "a step of joined rules", all(impl.StepRing(joined, ring)), stepOf(t, b, stepOf(t, a, ring)))
			}
		}
	}
}

// The table of joined rules, told by all rows that are as long as it looks.
func TestJoinedTables(t *testing.T) {
	l := &luck{23}
	for _, kind := range [][3]int64{{2, 0, 0}, {2, 0, 2}, {2, 2, 0}, {2, 1, 1}, {3, 0, 1}, {3, 1, 0}, {3, 1, 1}} {
		a, b := l.rule(kind[0], kind[1]), l.rule(kind[0], kind[2])
		want := ruleTold(kind[0], kind[1]+kind[2], func(cells string) int64 {
			var between strings.Builder
			for i := 0; i+int(2*a.Reach) < len(cells); i++ {
				between.WriteByte(byte('0' + told(t, a, cells[i:i+int(2*a.Reach)+1])))
			}
			return told(t, b, between.String())
		})
		wantOnly(t, "JoinRules", all(impl.JoinRules(a, b)), want)
	}
}

// looksAtSums reports whether no two neighbourhoods with the same sum are told
// differently.
func looksAtSums(t *testing.T, r impl.Rule) bool {
	list := neighbourhoods(r.States, r.Reach)
	sum := func(s string) int { return strings.Count(s, "1") + 2*strings.Count(s, "2") }
	for _, a := range list {
		for _, b := range list {
			if sum(a) == sum(b) && told(t, r, a) != told(t, r, b) {
				return false
			}
		}
	}
	return true
}

// changedOnce returns a rule whose table has another state at one place.
func changedOnce(r impl.Rule, at int) impl.Rule {
	r.Table = slices.Clone(r.Table)
	r.Table[at] = (r.Table[at] + 1) % r.States
	return r
}

func TestIsTotal(t *testing.T) {
	rules := drawnRules(5)
	for n := range int64(256) {
		rules = append(rules, ruleNumber(t, n))
	}
	l := &luck{29}
	for states := int64(2); states <= 3; states++ {
		for reach := int64(0); reach <= impl.MaxReach; reach++ {
			r, _ := impl.TotalRule(states, reach, l.states((2*reach+1)*(states-1)+1, states))
			for at := range r.Table {
				rules = append(rules, changedOnce(r, at))
			}
		}
	}
	for _, r := range rules {
		wantOnly(t, "IsTotal", all(impl.IsTotal(r)), looksAtSums(t, r))
	}
}

func TestIsSumRule(t *testing.T) {
	sums := map[string]bool{}
	for states := int64(2); states <= 3; states++ {
		for reach := int64(0); reach <= impl.MaxReach; reach++ {
			for _, text := range neighbourhoods(states, reach) {
				r := ruleTold(states, reach, func(cells string) int64 {
					var sum int64
					for i := range cells {
						sum += digitAt(cells, i) * digitAt(text, i)
					}
					return sum % states
				})
				sums[shown(r)] = true
			}
		}
	}
	rules := drawnRules(5)
	for n := range int64(256) {
		rules = append(rules, ruleNumber(t, n))
	}
	for n := range int64(27) {
		rules = append(rules, impl.Rule{States: 3, Reach: 0, Table: []int64{n / 9, n / 3 % 3, n % 3}})
	}
	for _, weights := range [][]int64{{1}, {2}, {1, 0, 1}, {2, 1, 2}, {1, 0, 1, 1, 0}, {2, 1, 0, 2, 1}} {
		for states := int64(2); states <= 3; states++ {
			if r, ok := impl.SumRule(states, weights); ok {
				for at := range r.Table {
					rules = append(rules, changedOnce(r, at))
				}
			}
		}
	}
	for _, r := range rules {
		wantOnly(t, "IsSumRule", all(impl.IsSumRule(r)), sums[shown(r)])
	}
}

func TestActiveShare(t *testing.T) {
	for _, c := range []struct {
		r    impl.Rule
		want uint32
	}{
		{impl.Rule{States: 2, Table: []int64{0, 0}}, 0},
		{impl.Rule{States: 2, Table: []int64{1, 1}}, 0x3f800000},
		{impl.Rule{States: 3, Table: []int64{0, 2, 0}}, 0x3eaaaaab},
		{impl.Rule{States: 3, Table: []int64{1, 0, 2}}, 0x3f2aaaab},
		{ruleNumber(t, 110), 0x3f200000},
		{ruleNumber(t, 1), 0x3e000000},
	} {
		share, ok := impl.ActiveShare(c.r)
		if !ok || bitsOf(share) != c.want {
			t.Errorf("ActiveShare of %v: got %08x, %v, want %08x", c.r, bitsOf(share), ok, c.want)
		}
	}
	for _, r := range drawnRules(9) {
		active := len(r.Table) - strings.Count(textOf(r.Table), "0")
		wantOnly(t, "ActiveShare", all(impl.ActiveShare(r)), float32(float64(active)/float64(len(r.Table))))
	}
}

func TestSenseOf(t *testing.T) {
	for _, c := range []struct {
		r    impl.Rule
		want uint32
	}{
		{impl.Rule{States: 2, Table: []int64{1, 1}}, 0},
		{impl.Rule{States: 2, Table: []int64{1, 0}}, 0x3f800000},
		{impl.Rule{States: 3, Table: []int64{0, 2, 0}}, 0x3f2aaaab},
		{impl.Rule{States: 3, Table: []int64{2, 0, 1}}, 0x3f800000},
		{ruleNumber(t, 90), 0x3f2aaaab},
		{ruleNumber(t, 150), 0x3f800000},
		{ruleNumber(t, 204), 0x3eaaaaab},
		{ruleNumber(t, 1), 0x3e800000},
		{ruleNumber(t, 110), 0x3f155555},
		{ruleNumber(t, 0), 0},
	} {
		sense, ok := impl.SenseOf(c.r)
		if !ok || bitsOf(sense) != c.want {
			t.Errorf("SenseOf %v: got %08x, %v, want %08x", c.r, bitsOf(sense), ok, c.want)
		}
	}
	for _, r := range drawnRules(9) {
		changed, pairs := 0, 0
		list := neighbourhoods(r.States, r.Reach)
		for _, a := range list {
			for _, b := range list {
				if differ(a, b) == 1 {
					pairs++
					if told(t, r, a) != told(t, r, b) {
						changed++
					}
				}
			}
		}
		wantOnly(t, "SenseOf", all(impl.SenseOf(r)), float32(float64(changed)/float64(pairs)))
	}
}

// differ returns at how many places two texts of the same length differ.
func differ(a, b string) int {
	n := 0
	for i := range a {
		if a[i] != b[i] {
			n++
		}
	}
	return n
}
