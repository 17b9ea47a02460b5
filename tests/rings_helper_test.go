package tests

import (
	"slices"
	"strconv"
	"strings"
	"testing"

	"loop.example/g01381/impl"
)

// toThe returns base to the power of n.
func toThe(base, n int64) int64 {
	p := int64(1)
	for range n {
		p *= base
	}
	return p
}

// luck draws small numbers, always the same ones.
type luck struct{ seed uint64 }

func (l *luck) below(n int64) int64 {
	l.seed = l.seed*6364136223846793005 + 1442695040888963407
	return int64(l.seed>>33) % n
}

func (l *luck) states(n, states int64) []int64 {
	list := make([]int64, n)
	for i := range list {
		list[i] = l.below(states)
	}
	return list
}

func (l *luck) rule(states, reach int64) impl.Rule {
	return impl.Rule{States: states, Reach: reach, Table: l.states(toThe(states, 2*reach+1), states)}
}

// drawnRules returns n rules of each number of states and each reach.
func drawnRules(n int) []impl.Rule {
	l := &luck{7}
	var rules []impl.Rule
	for states := int64(2); states <= 3; states++ {
		for reach := int64(0); reach <= impl.MaxReach; reach++ {
			for range n {
				rules = append(rules, l.rule(states, reach))
			}
		}
	}
	return rules
}

// drawnRings returns rings of 1 to 8 cells, and of the greatest lengths.
func drawnRings(states int64) [][]int64 {
	l := &luck{11}
	var rings [][]int64
	for _, size := range []int64{1, 2, 3, 4, 5, 6, 7, 8, impl.MaxRing - 1, impl.MaxRing} {
		rings = append(rings, l.states(size, states))
	}
	return rings
}

// textOf returns the states of a row as one text.
func textOf(cells []int64) string {
	var b strings.Builder
	for _, x := range cells {
		b.WriteByte(byte('0' + x))
	}
	return b.String()
}

// told returns what a rule tells for a neighbourhood that is told as a text.
func told(t *testing.T, r impl.Rule, cells string) int64 {
	t.Helper()
	i, err := strconv.ParseInt(cells, int(r.States), 64)
	if err != nil || int64(len(cells)) != 2*r.Reach+1 {
		t.Fatalf("no neighbourhood: %q", cells)
	}
	return r.Table[i]
}

// stepOf returns the next ring, told by the row that goes on without end.
func stepOf(t *testing.T, r impl.Rule, ring []int64) []int64 {
	t.Helper()
	row := strings.Repeat(textOf(ring), 5)
	next := make([]int64, len(ring))
	for i := range next {
		from := 2*len(ring) + i - int(r.Reach)
		next[i] = told(t, r, row[from:from+2*int(r.Reach)+1])
	}
	return next
}

// textsOf returns all texts of n states, in order.
func textsOf(states, n int64) []string {
	list := []string{""}
	for range n {
		var longer []string
		for _, s := range list {
			for x := range states {
				longer = append(longer, s+strconv.FormatInt(x, 10))
			}
		}
		list = longer
	}
	return list
}

// neighbourhoods returns all of them, in the order of their numbers.
func neighbourhoods(states, reach int64) []string { return textsOf(states, 2*reach+1) }

// digitAt returns the state at a place of a text.
func digitAt(s string, i int) int64 { return int64(s[i] - '0') }

// ruleNumber returns the rule with a number, which has one.
func ruleNumber(t *testing.T, n int64) impl.Rule {
	t.Helper()
	r, ok := impl.RuleOfNumber(n)
	if !ok {
		t.Fatalf("RuleOfNumber(%d) failed", n)
	}
	return r
}

// all returns the results of a call as a list.
func all(results ...any) []any { return results }

// isZero reports whether a result is a zero value, nil and empty slices being
// the same.
func isZero(result any) bool {
	switch x := result.(type) {
	case bool:
		return !x
	case int64:
		return x == 0
	case float32:
		return bitsOf(x) == 0
	case string:
		return x == ""
	case []string:
		return len(x) == 0
	case []int64:
		return len(x) == 0
	case [][]int64:
		return len(x) == 0
	case impl.Rule:
		return x.States == 0 && x.Reach == 0 && len(x.Table) == 0
	case impl.Field:
		return x.Rows == 0 && x.Columns == 0 && len(x.Cells) == 0
	case []impl.Field:
		return len(x) == 0
	case []float32:
		return len(x) == 0
	case impl.Gas:
		return x.Ways == 0 && x.Rows == 0 && x.Columns == 0 && len(x.Cells) == 0 && len(x.Walls) == 0
	case impl.Flow:
		return x.Rows == 0 && x.Columns == 0 && len(x.Parts) == 0 && len(x.Walls) == 0
	case complex64:
		return bitsOf(real(x)) == 0 && bitsOf(imag(x)) == 0
	case impl.Phases:
		return x.Rows == 0 && x.Columns == 0 && len(x.Cells) == 0
	case []impl.Rule:
		return len(x) == 0
	case impl.Saved:
		return x.Name == "" && isZero(x.Rule) && isZero(x.Field)
	case []impl.Saved:
		return len(x) == 0
	case impl.Life:
		return len(x.Born) == 0 && len(x.Stay) == 0
	case impl.Desk:
		return isZero(x.Rule) && len(x.Ring) == 0 && isZero(x.Field) && isZero(x.Life)
	}
	return false
}

// wantNone checks a call that fails: all of its results are zero values.
func wantNone(t *testing.T, what string, results []any) {
	t.Helper()
	if slices.ContainsFunc(results, func(x any) bool { return !isZero(x) }) {
		t.Errorf("%s: got %v, want it to fail with zero values", what, results)
	}
}

// wantOnly checks a call that succeeds with one result before the last one.
func wantOnly(t *testing.T, what string, results []any, want any) {
	t.Helper()
	if len(results) != 2 || results[1] != true || shown(results[0]) != shown(want) {
		t.Errorf("%s: got %v, want %v, true", what, results, want)
	}
}

// succeeds reports whether the last result of a call is true.
func succeeds(results []any) bool { return results[len(results)-1] == true }

// wantLimits checks from where to where a parameter is accepted.
func wantLimits(t *testing.T, what string, least, most int64, call func(n int64) []any) {
	t.Helper()
	const end = 1<<63 - 1
	for _, n := range []int64{
		-end - 1, -1 << 32, least - 2, least - 1, least, least + 1,
		most - 1, most, most + 1, most + 2, 1 << 32, end,
	} {
		if n < least || n > most {
			wantNone(t, what+" with "+strconv.FormatInt(n, 10), call(n))
		} else if !succeeds(call(n)) {
			t.Errorf("%s with %d: it failed", what, n)
		}
	}
}

// badRules returns rules that are not valid.
func badRules() []impl.Rule {
	const end = 1<<63 - 1
	return []impl.Rule{
		{},
		{States: 2, Reach: 0},
		{States: 2, Reach: 0, Table: []int64{0}},
		{States: 2, Reach: 0, Table: []int64{0, 1, 0}},
		{States: 2, Reach: 0, Table: []int64{0, 2}},
		{States: 2, Reach: 0, Table: []int64{-1, 0}},
		{States: 3, Reach: 0, Table: []int64{0, 1}},
		{States: 3, Reach: 0, Table: []int64{0, 1, 3}},
		{States: 3, Reach: 0, Table: []int64{0, 1, 2, 0}},
		{States: 0, Reach: 0, Table: []int64{}},
		{States: 1, Reach: 0, Table: []int64{0}},
		{States: 4, Reach: 0, Table: []int64{0, 1, 2, 3}},
		{States: -2, Reach: 0, Table: []int64{0, 0}},
		{States: 2, Reach: -1, Table: []int64{0}},
		{States: 2, Reach: -1, Table: []int64{}},
		{States: 2, Reach: 1, Table: many(int64(0), 7)},
		{States: 2, Reach: 1, Table: many(int64(0), 9)},
		{States: 2, Reach: 1, Table: []int64{0, 0, 0, 0, 0, 0, 0, 2}},
		{States: 2, Reach: 2, Table: many(int64(0), 8)},
		{States: 2, Reach: 3, Table: many(int64(0), 128)},
		{States: 3, Reach: 1, Table: many(int64(0), 8)},
		{States: 3, Reach: 2, Table: many(int64(3), 243)},
		{States: 3, Reach: 3, Table: many(int64(0), 2187)},
		{States: end, Reach: end, Table: []int64{0, 1}},
		{States: -end - 1, Reach: -end - 1, Table: []int64{0, 1}},
		{States: 2, Reach: end, Table: []int64{0, 1}},
		{States: 2, Reach: end / 2, Table: []int64{0, 1}},
		{States: 2, Reach: 0, Table: []int64{end, -end}},
	}
}

// badRings returns lists that are no rings for some states.
func badRings(states int64) [][]int64 {
	const end = 1<<63 - 1
	return [][]int64{
		nil, {}, {states}, {-1}, {0, states}, {0, 1, -1}, {end}, {-end - 1, 0},
		many(int64(0), impl.MaxRing+1), append(many(int64(0), impl.MaxRing-1), states),
	}
}
