package tests

import (
	"math"
	"slices"
	"strconv"
	"strings"
	"testing"

	"loop.example/g01381/impl"
)

// turnOf returns a ring from the cell by on.
func turnOf(ring []int64, by int64) []int64 {
	turn := make([]int64, len(ring))
	for i := range ring {
		turn[i] = ring[(int64(i)+by)%int64(len(ring))]
	}
	return turn
}

func TestTurnRing(t *testing.T) {
	wantOnly(t, "TurnRing", all(impl.TurnRing([]int64{0, 1, 2}, 1)), []int64{1, 2, 0})
	for _, ring := range append(drawnRings(2), drawnRings(3)...) {
		for by := range int64(impl.MaxRing + 1) {
			wantOnly(t, "TurnRing", all(impl.TurnRing(ring, by)), turnOf(ring, by))
		}
		size := int64(len(ring))
		for by := range size {
			turn, _ := impl.TurnRing(ring, by)
			wantOnly(t, "TurnRing and back", all(impl.TurnRing(turn, size-by)), ring)
		}
	}
}

// Promise 3: steps on rings turned around are turned steps.
func TestTurnedSteps(t *testing.T) {
	for _, r := range drawnRules(6) {
		for _, ring := range drawnRings(r.States) {
			next, _ := impl.StepRing(r, ring)
			far, _ := impl.RunRing(r, ring, 9)
			for _, by := range []int64{0, 1, 2, 3, 5, 31, 63, 64} {
				turn, _ := impl.TurnRing(ring, by)
				turnedNext, _ := impl.TurnRing(next, by)
				turnedFar, _ := impl.TurnRing(far, by)
				wantOnly(t, "a step of a turned ring", all(impl.StepRing(r, turn)), turnedNext)
				wantOnly(t, "steps of a turned ring", all(impl.RunRing(r, turn, 9)), turnedFar)
				second, _ := impl.SecondStep(r, ring, next)
				turnedSecond, _ := impl.TurnRing(second, by)
				wantOnly(t, "a second step of turned rings", all(impl.SecondStep(r, turn, turnedNext)), turnedSecond)
			}
		}
	}
}

func TestLeastTurn(t *testing.T) {
	rings := append(drawnRings(2), drawnRings(3)...)
	rings = append(rings, []int64{1, 0, 2}, []int64{2}, many(int64(1), 64), []int64{1, 0, 1, 0}, []int64{0, 1, 0, 0, 1, 0},
		[]int64{2, 1, 0, 2, 1, 0}, []int64{0, 0, 1, 0, 1, 0, 0, 1, 0, 0}, append(many(int64(0), 63), 1), append(many(int64(2), 63), 1))
	for n := range toThe(3, 6) {
		ring := make([]int64, 6)
		for i := range ring {
			ring[i] = n / toThe(3, int64(i)) % 3
		}
		rings = append(rings, ring)
	}
	for _, ring := range rings {
		least := textOf(ring)
		for by := range int64(len(ring)) {
			least = min(least, textOf(turnOf(ring, by)))
		}
		got, ok := impl.LeastTurn(ring)
		if !ok || textOf(got) != least {
			t.Errorf("LeastTurn of %v: got %v, %v, want %s", ring, got, ok, least)
		}
		for by := range int64(len(ring)) {
			wantOnly(t, "LeastTurn of a turn", all(impl.LeastTurn(turnOf(ring, by))), got)
		}
	}
}

// countWords counts words with the text of a ring that goes on.
func countWords(t *testing.T, ring []int64, states, long int64) []int64 {
	t.Helper()
	row := strings.Repeat(textOf(ring), 5)
	counts := make([]int64, toThe(states, long))
	for i := range ring {
		n, err := strconv.ParseInt(row[i:i+int(long)], int(states), 64)
		if err != nil {
			t.Fatal(err)
		}
		counts[n]++
	}
	return counts
}

func TestWordsOfRing(t *testing.T) {
	wantOnly(t, "words of a ring", all(impl.WordsOfRing([]int64{0, 1, 1}, 2, 2)), []int64{0, 1, 1, 1})
	wantOnly(t, "a word longer than its ring", all(impl.WordsOfRing([]int64{0, 1}, 2, 3)), []int64{0, 0, 1, 0, 0, 1, 0, 0})
	wantOnly(t, "a word from left to right", all(impl.WordsOfRing([]int64{2, 1, 0}, 3, 2)), []int64{0, 0, 1, 1, 0, 0, 0, 1, 0})
	for states := int64(2); states <= 3; states++ {
		for _, ring := range drawnRings(states) {
			for long := int64(1); long <= 4; long++ {
				wantOnly(t, "WordsOfRing", all(impl.WordsOfRing(ring, states, long)), countWords(t, ring, states, long))
			}
		}
	}
	// A ring of two states is one of three, with longer lists of words.
	wantOnly(t, "WordsOfRing of 3 states", all(impl.WordsOfRing([]int64{0, 1}, 3, 1)), []int64{1, 1, 0})
}

func TestWordEntropies(t *testing.T) {
	for _, c := range []struct {
		ring         []int64
		states, long int64
		want         uint32
	}{
		{[]int64{0, 1}, 2, 1, 0x3f800000},
		{[]int64{0}, 2, 1, 0x00000000},
		{[]int64{1}, 3, 4, 0x00000000},
		{[]int64{0, 0, 0, 0}, 2, 2, 0x00000000},
		{[]int64{0, 1}, 2, 2, 0x3f000000},
		{[]int64{0, 1}, 2, 4, 0x3e800000},
		{[]int64{0, 1, 1}, 2, 1, 0x3f6b156f},
		{[]int64{0, 1, 1}, 2, 2, 0x3f4ae00e},
		{[]int64{0, 0, 1, 0, 1, 1, 1}, 2, 3, 0x3f6f8f9c},
		{[]int64{0, 1, 2}, 3, 1, 0x3fcae00e},
		{[]int64{0, 1, 2, 0, 0}, 3, 1, 0x3faf7b4f},
		{[]int64{0, 1, 2, 0, 0}, 3, 2, 0x3f7601bd},
		{[]int64{2, 2, 1, 0, 1, 0, 2, 1, 1, 0, 2}, 3, 4, 0x3f5d6756},
	} {
		entropy, ok := impl.WordEntropy(c.ring, c.states, c.long)
		if !ok || bitsOf(entropy) != c.want {
			t.Errorf("WordEntropy of %v, words of %d: got %v (%08x), %v, want %08x", c.ring, c.long, entropy, bitsOf(entropy), ok, c.want)
		}
	}
	for _, c := range []struct {
		states, size, long int64
		seed, want         uint32
	}{
		{2, 64, 4, 1, 0x3f733b5b},
		{3, 64, 4, 2, 0x3fad3ec0},
		{3, 64, 1, 3, 0x3fcad492},
		{3, 63, 3, 4, 0x3fbd3ae9},
		{2, 61, 3, 5, 0x3f6c27c5},
	} {
		seed := c.seed
		entropy, ok := impl.WordEntropy(drawnAlone(c.size, c.states, &seed), c.states, c.long)
		if !ok || bitsOf(entropy) != c.want {
			t.Errorf("WordEntropy of the ring of %d: got %v (%08x), %v, want %08x", c.seed, entropy, bitsOf(entropy), ok, c.want)
		}
	}
}

// The same, where each operation is made with 64-bit numbers, and narrowed: for
// single operations this rounds as 32-bit numbers do.
func TestWordEntropyRounds(t *testing.T) {
	near := func(x float64) float64 { return float64(float32(x)) }
	for states := int64(2); states <= 3; states++ {
		for _, ring := range drawnRings(states) {
			for long := int64(1); long <= 4; long++ {
				sum := 0.0
				for _, n := range countWords(t, ring, states, long) {
					if n > 0 {
						share := near(float64(n) / float64(len(ring)))
						product := near(share * float64(impl.LogNumber(float32(share))))
						sum = near(sum + near(product/near(0.6931472)))
					}
				}
				want := float32(0 - near(sum/float64(long)))
				wantOnly(t, "WordEntropy", all(impl.WordEntropy(ring, states, long)), want)
				if want < 0 || float64(want) > math.Log2(float64(states))+1e-6 {
					t.Errorf("the entropy of %v is %v", ring, want)
				}
			}
		}
	}
}

func TestDrawRing(t *testing.T) {
	for _, c := range []struct {
		states, n, seed int64
		ring            []int64
		then            int64
	}{
		{2, 3, 0, []int64{0, 0, 1}, 3519870697},
		{3, 3, 0, []int64{0, 0, 2}, 3519870697},
		{2, 1, 4294967295, []int64{0}, 1012239698},
		{3, 5, 4294967295, []int64{0, 0, 0, 1, 2}, 3082116262},
		{2, 12, 1, []int64{0, 0, 1, 1, 0, 0, 1, 1, 0, 1, 0, 0}, 1814098701},
		{3, 12, 123456789, []int64{0, 2, 1, 1, 1, 1, 0, 1, 1, 0, 1, 0}, 1218163169},
	} {
		ring, seed, ok := impl.DrawRing(c.states, c.n, c.seed)
		if !ok || seed != c.then || !slices.Equal(ring, c.ring) {
			t.Errorf("DrawRing(%d, %d, %d): got %v, %d, %v, want %v, %d", c.states, c.n, c.seed, ring, seed, ok, c.ring, c.then)
		}
	}
}

func TestDrawnRings(t *testing.T) {
	for _, start := range []int64{0, 1, 2, 65535, 1 << 31, 4294967295} {
		for states := int64(2); states <= 3; states++ {
			for _, n := range []int64{1, 2, impl.MaxRing - 1, impl.MaxRing} {
				seed := uint32(start)
				want := drawnAlone(n, states, &seed)
				ring, then, ok := impl.DrawRing(states, n, start)
				if !ok || then != int64(seed) || !slices.Equal(ring, want) || !impl.IsRing(ring, states) {
					t.Errorf("DrawRing(%d, %d, %d): got %v, %d, %v, want %v, %d", states, n, start, ring, then, ok, want, seed)
				}
			}
			// The seed that is returned goes on where the ring ends.
			first, between, _ := impl.DrawRing(states, 20, start)
			second, then, _ := impl.DrawRing(states, 44, between)
			whole, end, _ := impl.DrawRing(states, 64, start)
			if then != end || !slices.Equal(slices.Concat(first, second), whole) {
				t.Errorf("DrawRing from %d on: two rings are not one", start)
			}
		}
	}
}
