package tests

import (
	"testing"

	"loop.example/g01381/impl"
)

// voteAfter returns a field behind a vote, told by the document's words.
func voteAfter(f impl.Field, round bool) impl.Field {
	return fieldThat(f.Rows, f.Columns, func(row, column int64) int64 {
		var ones int64
		for i := row - 1; i <= row+1; i++ {
			for k := column - 1; k <= column+1; k++ {
				ones += cellAt(f, i, k, round)
			}
		}
		return int64(boolNumber(ones > 9-ones))
	})
}

// votesOf returns the field that comes to rest, and how many votes changed it, if
// they are no more than most.
func votesOf(f impl.Field, round bool, most int64) (impl.Field, int64, bool) {
	for count := int64(0); count <= most; count++ {
		next := voteAfter(f, round)
		if shown(next) == shown(f) {
			return f, count, true
		}
		f = next
	}
	return impl.Field{}, 0, false
}

func TestVoteStep(t *testing.T) {
	for _, f := range drawnFields(797, 1) {
		for _, round := range []bool{false, true} {
			wantOnly(t, named("VoteStep", f, round), all(impl.VoteStep(f, round)), voteAfter(f, round))
		}
	}
	// All fields of nine cells, and of fewer: in the middle, five of them decide.
	for _, s := range [][2]int64{{1, 1}, {1, 2}, {2, 1}, {2, 2}, {1, 5}, {5, 1}, {2, 3}, {3, 3}} {
		allFields(s[0], s[1], func(f impl.Field) {
			for _, round := range []bool{false, true} {
				wantOnly(t, named("VoteStep", f, round), all(impl.VoteStep(f, round)), voteAfter(f, round))
			}
			if s == [2]int64{3, 3} {
				next := must(t)(impl.VoteStep(f, false))
				wantBool(t, named("the middle", f), next.Cells[4] == 1, countThat(f.Cells, func(n int64) bool { return n == 1 }) >= 5)
			}
		})
	}
}

func TestVoteStepByHand(t *testing.T) {
	wantVote := func(what string, f impl.Field, round bool, want impl.Field) {
		t.Helper()
		wantOnly(t, what, all(impl.VoteStep(f, round)), want)
	}
	wantVote("four of nine", fieldOf("101", "000", "101"), false, fieldOf("000", "000", "000"))
	wantVote("five of nine", fieldOf("101", "010", "101"), false, fieldOf("000", "010", "000"))
	wantVote("five without the middle", fieldOf("111", "000", "101"), false, fieldOf("000", "010", "000"))
	// A corner has three neighbours within, and can not win.
	wantVote("corners", evenField(2, 2, 1), false, evenField(2, 2, 0))
	wantVote("corners of nine", evenField(3, 3, 1), false, fieldOf("010", "111", "010"))
	wantVote("corners, round", evenField(2, 2, 1), true, evenField(2, 2, 1))
	wantVote("a row", evenField(1, 5, 1), false, evenField(1, 5, 0))
	wantVote("a column", evenField(5, 1, 1), false, evenField(5, 1, 0))
	// A cell alone is each of its own nine cells, or has eight zeros beside it.
	wantVote("a cell of 1, round", fieldOf("1"), true, fieldOf("1"))
	wantVote("a cell of 0, round", fieldOf("0"), true, fieldOf("0"))
	wantVote("a cell of 1", fieldOf("1"), false, fieldOf("0"))
	wantVote("a cell of 0", fieldOf("0"), false, fieldOf("0"))
	// Each place counts for itself: in a row of two, the other cell has six of nine.
	wantVote("a row of two, round", fieldOf("10"), true, fieldOf("01"))
	wantVote("a column of two, round", fieldOf("0", "1"), true, fieldOf("1", "0"))
}

// Votes of opposite fields are opposite, round and round.
func TestVotesOfOpposites(t *testing.T) {
	opposite := func(f impl.Field) impl.Field {
		return fieldThat(f.Rows, f.Columns, func(row, column int64) int64 { return 1 - cellAt(f, row, column, false) })
	}
	for _, f := range drawnFields(809, 1) {
		wantField(t, named("the opposite vote", f), must(t)(impl.VoteStep(opposite(f), true)), opposite(must(t)(impl.VoteStep(f, true))))
		last, count, ok := impl.VoteRun(f, true, 20)
		if ok {
			last = opposite(last)
		}
		wantEach(t, named("the opposite votes", f), all(impl.VoteRun(opposite(f), true, 20)), all(last, count, ok))
		for name, image := range images(t) {
			for _, round := range []bool{false, true} {
				wantField(t, named("a vote "+name, f), must(t)(impl.VoteStep(image(f), round)), image(must(t)(impl.VoteStep(f, round))))
			}
		}
	}
}

func TestVoteRun(t *testing.T) {
	failed, fine := 0, 0
	for _, f := range drawnFields(811, 1) {
		for _, round := range []bool{false, true} {
			for _, most := range []int64{0, 1, 2, 5, 30} {
				want, count, ok := votesOf(f, round, most)
				wantEach(t, named("VoteRun", f, round, most), all(impl.VoteRun(f, round, most)), all(want, count, ok))
				fine += boolNumber(ok && count > 0)
				failed += boolNumber(!ok)
			}
			// It comes to rest just at most, and does not a vote before.
			if want, count, ok := votesOf(f, round, impl.MaxRuns); ok {
				wantAll(t, named("VoteRun", f, round, count), all(impl.VoteRun(f, round, count)), want, count)
				wantAll(t, named("VoteRun of most", f, round), all(impl.VoteRun(f, round, impl.MaxRuns)), want, count)
				wantNone(t, named("VoteRun", f, round, count-1), all(impl.VoteRun(f, round, count-1)))
			} else {
				wantNone(t, named("VoteRun of most", f, round), all(impl.VoteRun(f, round, impl.MaxRuns)))
			}
		}
	}
	if failed < 10 || fine < 10 {
		t.Errorf("VoteRun failed %d times, and succeeded %d times behind votes", failed, fine)
	}
	wantAll(t, "a field that is still", all(impl.VoteRun(evenField(4, 5, 1), true, 0)), evenField(4, 5, 1), int64(0))
	wantAll(t, "a field without cells of 1", all(impl.VoteRun(evenField(24, 24, 0), false, 0)), evenField(24, 24, 0), int64(0))
	wantAll(t, "one vote", all(impl.VoteRun(fieldOf("1"), false, 1)), fieldOf("0"), int64(1))
	wantNone(t, "one vote, and none is allowed", all(impl.VoteRun(fieldOf("1"), false, 0)))
	// Two cells that become each other never come to rest.
	wantNone(t, "a field that does not come to rest", all(impl.VoteRun(fieldOf("10"), true, impl.MaxRuns)))
	wantLimits(t, "VoteRun with most", 0, impl.MaxRuns, func(n int64) []any { return all(impl.VoteRun(evenField(2, 2, 1), true, n)) })
}

func TestVotesThatFail(t *testing.T) {
	for _, f := range notPlain() {
		for _, round := range []bool{false, true} {
			wantNone(t, named("VoteStep", f), all(impl.VoteStep(f, round)))
			wantNone(t, named("VoteRun", f), all(impl.VoteRun(f, round, 5)))
			wantNone(t, named("VoteRun", f), all(impl.VoteRun(f, round, 0)))
		}
	}
}
