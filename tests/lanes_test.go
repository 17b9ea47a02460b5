package tests

import (
	"slices"
	"testing"

	"loop.example/g01381/impl"
)

// lanesOf returns all lanes of n places whose cars have some speeds.
func lanesOf(n int, speeds ...int64) [][]int64 {
	lanes := [][]int64{{}}
	for range n {
		var longer [][]int64
		for _, lane := range lanes {
			for _, x := range append([]int64{-1}, speeds...) {
				longer = append(longer, append(slices.Clone(lane), x))
			}
		}
		lanes = longer
	}
	return lanes
}

// lane draws a lane, of which one of some places has a car.
func (l *luck) lane(n, some int64) []int64 {
	lane := many(int64(-1), int(n))
	for at := range lane {
		if l.below(some) == 0 {
			lane[at] = l.below(impl.MaxSpeed + 1)
		}
	}
	return lane
}

// drawnLanes returns lanes with few and many cars, without any, and full ones.
func drawnLanes(seed uint64) [][]int64 {
	l := &luck{seed}
	lanes := [][]int64{{-1}, {0}, {5}, many(int64(-1), impl.MaxLane), many(int64(0), impl.MaxLane), many(int64(5), impl.MaxLane)}
	for _, n := range []int64{1, 2, 3, 4, 6, 9, 20, impl.MaxLane - 1, impl.MaxLane} {
		for some := range int64(12) {
			lanes = append(lanes, l.lane(n, some+1))
		}
	}
	return lanes
}

// badLanes returns lists that are no lanes.
func badLanes() [][]int64 {
	const end = 1<<63 - 1
	return [][]int64{
		nil, {}, {-2}, {6}, {0, 6}, {-2, 0, 0}, {0, -1, 5, 7}, {end}, {-end - 1}, {-1, -end},
		many(int64(-1), impl.MaxLane+1), many(int64(0), impl.MaxLane+1), append(many(int64(3), impl.MaxLane-1), 6),
		append(many(int64(3), impl.MaxLane-1), -2), many(int64(0), 1000),
	}
}

// cars returns how many cars are on a lane.
func cars(lane []int64) int {
	return len(slices.DeleteFunc(slices.Clone(lane), func(x int64) bool { return x == -1 }))
}

// laneStep returns what LaneStep does of what is valid: it turns the lane so that
// each car is the first one, and pulls what is before it.
func laneStep(lane []int64, most int64, slow float32, seed int64) ([]int64, int64) {
	next, now := many(int64(-1), len(lane)), uint32(seed)
	for at, speed := range lane {
		if speed == -1 {
			continue
		}
		ahead := slices.Concat(lane[at+1:], lane[:at+1])
		free := slices.IndexFunc(ahead, func(x int64) bool { return x >= 0 })
		speed = min(speed+1, most, int64(free))
		now = now*1664525 + 1013904223
		if float64(now>>8) < float64(slow)*(1<<24) && speed > 0 {
			speed--
		}
		next[around(int64(at)+speed, int64(len(lane)))] = speed
	}
	return next, int64(now)
}

func TestIsLane(t *testing.T) {
	for _, lane := range drawnLanes(501) {
		wantBool(t, named("IsLane", lane), impl.IsLane(lane), true)
	}
	for _, lane := range badLanes() {
		wantBool(t, named("IsLane", lane), impl.IsLane(lane), false)
	}
	for x := int64(-4); x < 9; x++ {
		for at := range 5 {
			lane := []int64{0, -1, 5, -1, 3}
			lane[at] = x
			wantBool(t, named("IsLane", lane), impl.IsLane(lane), x >= -1 && x <= 5)
		}
	}
	for size := range 70 {
		wantBool(t, named("IsLane of so many places", size), impl.IsLane(many(int64(-1), size)), size >= 1 && size <= 64)
	}
}

// laneSlows are parts of cars that become slower.
func laneSlows() []float32 {
	return []float32{0, num(minusZero), num(leastNumber), 0x1p-24, 0.25, 0.5, num(0x3f7fffff), 1}
}

func TestLaneStep(t *testing.T) {
	l := &luck{503}
	want := func(lane []int64, most int64, slow float32, seed int64) {
		t.Helper()
		next, behind := laneStep(lane, most, slow, seed)
		wantAll(t, named("LaneStep", lane, most, slow, seed), all(impl.LaneStep(lane, most, slow, seed)), next, behind)
		if cars(next) != cars(lane) {
			t.Errorf("%v has not as many cars as %v", next, lane)
		}
	}
	for n := range 4 {
		for _, lane := range lanesOf(n+1, 0, 1, 2, 5) {
			for most := int64(1); most <= impl.MaxSpeed; most++ {
				want(lane, most, laneSlows()[l.below(8)], l.below(1<<31)*2)
			}
		}
	}
	for _, lane := range drawnLanes(509) {
		for most := int64(1); most <= impl.MaxSpeed; most++ {
			for _, slow := range laneSlows() {
				for _, seed := range []int64{0, 1, 1<<31 - 1, 1 << 31, 1<<32 - 1} {
					want(lane, most, slow, seed)
				}
			}
		}
	}
}

func TestLaneStepLimits(t *testing.T) {
	lane := []int64{0, -1, 3}
	wantLimits(t, "LaneStep with most", 1, impl.MaxSpeed, func(n int64) []any { return all(impl.LaneStep(lane, n, 0.5, 7)) })
	wantLimits(t, "LaneStep with a seed", 0, 1<<32-1, func(n int64) []any { return all(impl.LaneStep(lane, 3, 0.5, n)) })
	wantLimits(t, "LaneStep without cars, with a seed", 0, 1<<32-1, func(n int64) []any { return all(impl.LaneStep([]int64{-1}, 3, 0.5, n)) })
	for _, x := range append(seldom(), -0.5, 1.5, num(0x3f800001), num(0x80000001)) {
		for _, lane := range [][]int64{lane, {-1}} {
			if got := all(impl.LaneStep(lane, 5, x, 7)); x >= 0 && x <= 1 {
				wantBool(t, named("LaneStep with slow", x), succeeds(got), true)
			} else {
				wantNone(t, named("LaneStep with slow", x), got)
			}
		}
	}
	for _, lane := range badLanes() {
		wantNone(t, named("LaneStep", lane), all(impl.LaneStep(lane, 5, 0.5, 7)))
	}
	for _, n := range ends() {
		wantNone(t, "LaneStep far", all(impl.LaneStep(lane, n, 0.5, n)))
	}
}

// The last example of the document, and other cars that are told by hand.
func TestLaneStepsTold(t *testing.T) {
	lane, seed, _ := impl.LaneStep([]int64{0, -1, -1, -1, -1, -1}, 5, 0, 0)
	lane, _, _ = impl.LaneStep(lane, 5, 0, seed)
	wantEach(t, "the example", all(lane), all([]int64{-1, -1, -1, 2, -1, -1}))
	const first, second = 1013904223, (1013904223*1664525 + 1013904223) % (1 << 32)
	for _, c := range []struct {
		lane []int64
		most int64
		slow float32
		next []int64
		seed int64
	}{
		{[]int64{-1}, 5, 1, []int64{-1}, 0},
		{[]int64{-1, -1, -1}, 5, 1, []int64{-1, -1, -1}, 0},
		{[]int64{0}, 5, 0, []int64{0}, first},
		{[]int64{5}, 5, 1, []int64{0}, first},
		{[]int64{3, -1}, 5, 0, []int64{-1, 1}, first},
		{[]int64{5, 4}, 5, 0, []int64{0, 0}, second},
		{[]int64{5, 4}, 5, 1, []int64{0, 0}, second},
		{[]int64{5, -1, -1, -1, -1, -1, -1, -1}, 5, 0, []int64{-1, -1, -1, -1, -1, 5, -1, -1}, first},
		{[]int64{5, -1, -1, -1, -1, -1, -1, -1}, 1, 0, []int64{-1, 1, -1, -1, -1, -1, -1, -1}, first},
		{[]int64{5, -1, -1, -1, -1, -1, -1, -1}, 1, 1, []int64{0, -1, -1, -1, -1, -1, -1, -1}, first},
		{[]int64{5, -1, -1, -1, -1, -1, -1, -1}, 3, 1, []int64{-1, -1, 2, -1, -1, -1, -1, -1}, first},
		{[]int64{5, -1, -1, 0, -1, -1, -1}, 5, 0, []int64{-1, -1, 2, -1, 1, -1, -1}, second},
		{[]int64{-1, 2, 2, -1}, 5, 0, []int64{2, 0, -1, -1}, second},
	} {
		wantAll(t, named("LaneStep", c), all(impl.LaneStep(c.lane, c.most, c.slow, 0)), c.next, c.seed)
	}
	// The share of the seed is held against slow for each car on its own.
	for _, k := range []uint32{1, 2, 1000, 1 << 23, 1<<24 - 1} {
		for _, low := range []uint32{0, 1, 255} {
			slow, lane := float32(k)*0x1p-24, []int64{1, -1, -1, -1}
			wantAll(t, named("a share that is slow", k), all(impl.LaneStep(lane, 5, slow, seedBefore(k<<8|low))), []int64{-1, -1, 2, -1}, k<<8|low)
			wantAll(t, named("a share less than slow", k), all(impl.LaneStep(lane, 5, slow, seedBefore((k-1)<<8|low))), []int64{-1, 1, -1, -1}, (k-1)<<8|low)
		}
	}
}

// Promise 7: cars are kept, and never meet, or go through each other.
func TestLanesKeep(t *testing.T) {
	l := &luck{521}
	for _, lane := range drawnLanes(523) {
		count, seed := cars(lane), l.below(1<<31)
		for range 60 {
			next, behind, ok := impl.LaneStep(lane, 1+l.below(5), 0.3, seed)
			if !ok || !impl.IsLane(next) || cars(next) != count {
				t.Fatalf("behind %v comes %v, %v", lane, next, ok)
			}
			// The free places that a car has gone over were free before.
			for at, speed := range next {
				for back := range max(speed, 0) {
					if lane[around(int64(at)-back, int64(len(lane)))] != -1 {
						t.Fatalf("behind %v comes %v: a car went too far", lane, next)
					}
				}
			}
			lane, seed = next, behind
		}
	}
}

func TestLaneSpeed(t *testing.T) {
	for _, lane := range append(drawnLanes(541), lanesOf(4, 0, 1, 3, 5)...) {
		var sum float64
		for _, x := range lane {
			sum += float64(max(x, 0))
		}
		if cars(lane) == 0 {
			wantNone(t, named("LaneSpeed", lane), all(impl.LaneSpeed(lane)))
		} else {
			wantOnly(t, named("LaneSpeed", lane), all(impl.LaneSpeed(lane)), float32(sum/float64(cars(lane))))
		}
	}
	wantOnly(t, "two cars", all(impl.LaneSpeed([]int64{1, -1, 2})), float32(1.5))
	wantOnly(t, "three cars", all(impl.LaneSpeed([]int64{1, 0, 0})), num(0x3eaaaaab))
	wantOnly(t, "a car that stands", all(impl.LaneSpeed([]int64{-1, 0})), float32(0))
	for _, lane := range badLanes() {
		wantNone(t, named("LaneSpeed", lane), all(impl.LaneSpeed(lane)))
	}
}

// changes reports whether the car at a place, if there is one, goes to the other
// lane.
func changes(lane, other []int64, at int) bool {
	size := int64(len(lane))
	for by := int64(-1); by <= 1; by++ {
		if other[around(int64(at)+by, size)] >= 0 {
			return false
		}
	}
	return lane[at] >= 0 && lane[around(int64(at)+1, size)] >= 0
}

// switched returns what SwitchLanes does of lanes of the same length.
func switched(a, b []int64) ([]int64, []int64) {
	first, second := make([]int64, len(a)), make([]int64, len(b))
	for at := range a {
		first[at], second[at] = a[at], b[at]
		if changes(a, b, at) || changes(b, a, at) {
			first[at], second[at] = b[at], a[at]
		}
	}
	return first, second
}

func TestSwitchLanes(t *testing.T) {
	want := func(a, b []int64) {
		t.Helper()
		first, second := switched(a, b)
		wantAll(t, named("SwitchLanes", a, b), all(impl.SwitchLanes(a, b)), first, second)
	}
	for n := range 4 {
		for _, a := range lanesOf(n+1, 0, 4) {
			for _, b := range lanesOf(n+1, 1, 5) {
				want(a, b)
			}
		}
	}
	l := &luck{547}
	for _, n := range []int64{5, 6, 8, 13, 30, impl.MaxLane - 1, impl.MaxLane} {
		for range 150 {
			want(l.lane(n, 1+l.below(8)), l.lane(n, 1+l.below(8)))
		}
	}
	for _, c := range [][4][]int64{
		{{3}, {-1}, {-1}, {3}},
		{{-1}, {3}, {3}, {-1}},
		{{3}, {2}, {3}, {2}},
		{{3, -1}, {-1, -1}, {3, -1}, {-1, -1}},
		{{3, 4}, {-1, -1}, {-1, -1}, {3, 4}},
		{{3, 4}, {-1, 0}, {3, 4}, {-1, 0}},
		{{1, 2, -1}, {-1, -1, -1}, {-1, 2, -1}, {1, -1, -1}},
		{{1, 2, -1}, {-1, -1, 0}, {1, 2, -1}, {-1, -1, 0}},
		{{1, -1, 2}, {-1, -1, -1}, {1, -1, -1}, {-1, -1, 2}},
		// Both lanes have cars that change, and one that can not.
		{{1, 2, -1, -1, -1, -1, -1}, {-1, -1, -1, -1, 4, 5, -1}, {-1, 2, -1, -1, 4, -1, -1}, {1, -1, -1, -1, -1, 5, -1}},
		{{1, 2, -1, -1, -1, -1}, {-1, -1, -1, 4, 5, 3}, {1, 2, -1, 4, 5, -1}, {-1, -1, -1, -1, -1, 3}},
		// The place beside the car, the one before, and the one behind are taken.
		{{-1, 1, 2, -1, -1}, {-1, 0, -1, -1, -1}, {-1, 1, 2, -1, -1}, {-1, 0, -1, -1, -1}},
		{{-1, 1, 2, -1, -1}, {-1, -1, 0, -1, -1}, {-1, 1, 2, -1, -1}, {-1, -1, 0, -1, -1}},
		{{-1, 1, 2, -1, -1}, {0, -1, -1, -1, -1}, {-1, 1, 2, -1, -1}, {0, -1, -1, -1, -1}},
		{{-1, 1, 2, -1, -1}, {-1, -1, -1, 0, -1}, {-1, -1, 2, -1, -1}, {-1, 1, -1, 0, -1}},
		{{-1, 1, 2, -1, -1}, {-1, -1, -1, -1, 0}, {-1, -1, 2, -1, -1}, {-1, 1, -1, -1, 0}},
	} {
		wantAll(t, named("SwitchLanes", c[0], c[1]), all(impl.SwitchLanes(c[0], c[1])), c[2], c[3])
		wantAll(t, named("SwitchLanes", c[1], c[0]), all(impl.SwitchLanes(c[1], c[0])), c[3], c[2])
	}
}

func TestSwitchLanesThatFail(t *testing.T) {
	for _, bad := range badLanes() {
		for _, other := range [][]int64{bad, many(int64(-1), len(bad)), {0}} {
			wantNone(t, named("SwitchLanes", bad, other), all(impl.SwitchLanes(bad, other)))
			wantNone(t, named("SwitchLanes", other, bad), all(impl.SwitchLanes(other, bad)))
		}
	}
	for a := 1; a < 6; a++ {
		for b := 1; b < 6; b++ {
			got := all(impl.SwitchLanes(many(int64(0), a), many(int64(-1), b)))
			wantBool(t, named("SwitchLanes of lengths", a, b), succeeds(got), a == b)
			if a != b {
				wantNone(t, named("SwitchLanes of lengths", a, b), got)
			}
		}
	}
}
