package tests

import (
	"slices"
	"testing"

	"loop.example/g01381/impl"
)

func TestSecondStep(t *testing.T) {
	for _, r := range drawnRules(6) {
		for i, now := range drawnRings(r.States) {
			before := (&luck{uint64(i)}).states(int64(len(now)), r.States)
			want := stepOf(t, r, now)
			for k := range want {
				want[k] = ((want[k]-before[k])%r.States + r.States) % r.States
			}
			wantOnly(t, "SecondStep", all(impl.SecondStep(r, before, now)), want)
		}
	}
}

// Promise 3: steps of second order lead back.
func TestSecondStepsLeadBack(t *testing.T) {
	for _, r := range drawnRules(6) {
		for i, now := range drawnRings(r.States) {
			before := (&luck{uint64(i)}).states(int64(len(now)), r.States)
			a, b := before, now
			for range 20 {
				next, _ := impl.SecondStep(r, a, b)
				wantOnly(t, "a step back", all(impl.SecondStep(r, next, b)), a)
				a, b = b, next
			}
			a, b = b, a
			for range 20 {
				next, _ := impl.SecondStep(r, a, b)
				a, b = b, next
			}
			if shown(b, a) != shown(before, now) {
				t.Errorf("rule %v from %v and %v: led back to %v and %v", r, before, now, b, a)
			}
		}
	}
}

func TestAloneSteps(t *testing.T) {
	l := &luck{31}
	for _, r := range drawnRules(5) {
		for _, ring := range drawnRings(r.States) {
			wantOnly(t, "AloneSteps of no places", all(impl.AloneSteps(r, ring, nil)), ring)
			wantOnly(t, "AloneSteps of an empty list", all(impl.AloneSteps(r, ring, []int64{})), ring)
			order := l.states(40, int64(len(ring)))
			order = append(order, 0, 0, int64(len(ring))-1, 0)
			want := slices.Clone(ring)
			for _, at := range order {
				want[at] = stepOf(t, r, want)[at]
			}
			wantOnly(t, "AloneSteps", all(impl.AloneSteps(r, ring, order)), want)
		}
	}
}

func TestAloneLimits(t *testing.T) {
	flip := impl.Rule{States: 2, Table: []int64{1, 0}}
	ring := []int64{0, 0, 1}
	wantOnly(t, "AloneSteps of MaxSteps", all(impl.AloneSteps(flip, ring, many(int64(1), impl.MaxSteps))), ring)
	wantOnly(t, "AloneSteps of one less", all(impl.AloneSteps(flip, ring, many(int64(1), impl.MaxSteps-1))), []int64{0, 1, 1})
	wantNone(t, "AloneSteps of one more", all(impl.AloneSteps(flip, ring, many(int64(1), impl.MaxSteps+1))))
	wantLimits(t, "AloneSteps, a place", 0, 2, func(n int64) []any { return all(impl.AloneSteps(flip, ring, []int64{0, 1, n})) })
	wantLimits(t, "AloneSteps, first", 0, 0, func(n int64) []any { return all(impl.AloneSteps(flip, []int64{1}, []int64{n, 0})) })
	wantLimits(t, "AloneSteps, MaxRing", 0, impl.MaxRing-1, func(n int64) []any {
		return all(impl.AloneSteps(flip, many(int64(1), impl.MaxRing), []int64{n}))
	})
	// A cell sees what those before it have become.
	wantOnly(t, "one after another", all(impl.AloneSteps(ruleNumber(t, 240), []int64{1, 0, 0, 0}, []int64{1, 2, 3})), many(int64(1), 4))
	wantOnly(t, "the other way", all(impl.AloneSteps(ruleNumber(t, 240), []int64{1, 0, 0, 0}, []int64{3, 2, 1})), []int64{1, 1, 0, 0})
}

func TestDamageOf(t *testing.T) {
	for _, r := range drawnRules(5) {
		for i, a := range drawnRings(r.States) {
			b := (&luck{uint64(i)}).states(int64(len(a)), r.States)
			if i%2 == 0 {
				b = slices.Clone(a)
				b[0] = (b[0] + 1) % r.States
			}
			var want []int64
			for c, d, steps := a, b, 0; steps <= impl.MaxRing; steps++ {
				want = append(want, int64(differ(textOf(c), textOf(d))))
				c, d = stepOf(t, r, c), stepOf(t, r, d)
			}
			for _, steps := range []int64{0, 1, 5, impl.MaxRing} {
				wantOnly(t, "DamageOf", all(impl.DamageOf(r, a, b, steps)), want[:steps+1])
				wantOnly(t, "DamageOf, exchanged", all(impl.DamageOf(r, b, a, steps)), want[:steps+1])
			}
			wantOnly(t, "DamageOf nothing", all(impl.DamageOf(r, a, a, 3)), many(int64(0), 4))
		}
	}
}

// periodOf looks for each ring among all before it.
func periodOf(t *testing.T, r impl.Rule, ring []int64, most int) (int, int) {
	came := []string{}
	for range most + 1 {
		if first := slices.Index(came, textOf(ring)); first >= 0 {
			return first, len(came) - first
		}
		came = append(came, textOf(ring))
		ring = stepOf(t, r, ring)
	}
	return -1, -1
}

func TestPeriodOf(t *testing.T) {
	for _, r := range drawnRules(8) {
		for i, ring := range drawnRings(r.States) {
			if i >= 8 {
				break
			}
			const most = 300
			first, again := periodOf(t, r, ring, most)
			got := all(impl.PeriodOf(r, ring, most))
			if first < 0 {
				wantNone(t, "PeriodOf a long round", got)
				continue
			}
			want := shown(int64(first), int64(again), true)
			sum := int64(first + again)
			if shown(got...) != want || shown(all(impl.PeriodOf(r, ring, sum))...) != want {
				t.Errorf("PeriodOf %v and %v: got %v, want %v", r, ring, got, want)
			}
			if sum > 1 {
				wantNone(t, "PeriodOf, most passed by one", all(impl.PeriodOf(r, ring, sum-1)))
			}
		}
	}
}

func TestPeriods(t *testing.T) {
	right := ruleNumber(t, 170)
	for _, c := range []struct {
		rule  int64
		ring  []int64
		most  int64
		first int64
		again int64
	}{
		{204, []int64{1}, 1, 0, 1},
		{204, []int64{0, 1, 1}, 4096, 0, 1},
		{0, []int64{1}, 2, 1, 1},
		{0, []int64{0}, 1, 0, 1},
		{51, []int64{0, 1}, 2, 0, 2},
		{170, append(many(int64(0), 63), 1), 64, 0, 64},
		{90, []int64{1, 0, 0}, 2, 1, 1},
	} {
		first, again, ok := impl.PeriodOf(ruleNumber(t, c.rule), c.ring, c.most)
		if first != c.first || again != c.again || !ok {
			t.Errorf("PeriodOf rule %d and %v: got %d, %d, %v, want %d, %d", c.rule, c.ring, first, again, ok, c.first, c.again)
		}
	}
	wantNone(t, "PeriodOf a turn of 64 cells", all(impl.PeriodOf(right, append(many(int64(0), 63), 1), 63)))
	wantNone(t, "PeriodOf, one step and one more", all(impl.PeriodOf(ruleNumber(t, 0), []int64{1}, 1)))
}

// drawnAlone draws states as the document tells it, without DrawRing.
func drawnAlone(n, states int64, seed *uint32) []int64 {
	list := make([]int64, n)
	for i := range list {
		*seed = *seed*1664525 + 1013904223
		list[i] = int64(uint64(*seed) * uint64(states) >> 32)
	}
	return list
}

// The greatest number of steps at which a ring can come again, and one more.
func TestLongestPeriods(t *testing.T) {
	seed := uint32(2311)
	r := impl.Rule{States: 3, Reach: 2, Table: drawnAlone(243, 3, &seed)}
	ring := drawnAlone(14, 3, &seed)
	first, again, ok := impl.PeriodOf(r, ring, 4096)
	if first != 36 || again != 4060 || !ok {
		t.Errorf("PeriodOf a ring with 4096: got %d, %d, %v", first, again, ok)
	}
	wantNone(t, "PeriodOf a ring with 4096", all(impl.PeriodOf(r, ring, 4095)))
	seed = 3525
	r.Table = drawnAlone(243, 3, &seed)
	ring = drawnAlone(14, 3, &seed)
	wantNone(t, "PeriodOf a ring with 4097", all(impl.PeriodOf(r, ring, 4096)))
}
