package tests

import (
	"testing"

	"loop.example/g01381/impl"
)

// clustersOf returns clusters, told by another way: each cell of 1 takes the
// least place among its own and its neighbours', again and again.
func clustersOf(f impl.Field) ([]int64, int64) {
	least := make([]int, len(f.Cells))
	for at := range least {
		least[at] = at
	}
	for changed := true; changed; {
		changed = false
		for at, x := range f.Cells {
			for _, i := range near(f, at) {
				if x == 1 && f.Cells[i] == 1 && least[i] < least[at] {
					least[at], changed = least[i], true
				}
			}
		}
	}
	numbers, of := make([]int64, len(f.Cells)), map[int]int64{}
	for at, x := range f.Cells {
		if x != 1 {
			continue
		}
		if of[least[at]] == 0 {
			of[least[at]] = int64(len(of)) + 1
		}
		numbers[at] = of[least[at]]
	}
	return numbers, int64(len(of))
}

// through reports whether a cluster has cells in the first and in the last row.
func through(f impl.Field) bool {
	numbers, _ := clustersOf(f)
	for _, a := range numbers[:f.Columns] {
		for _, b := range numbers[(f.Rows-1)*f.Columns:] {
			if a != 0 && a == b {
				return true
			}
		}
	}
	return false
}

// fieldsWithClusters returns fields with few, and with many cells of 1.
func fieldsWithClusters() []impl.Field {
	l := &luck{137}
	fields := append(drawnFields(139, 1), drawnFields(149, 2)...)
	fields = append(fields, drawnFields(151, impl.MaxCell)...)
	for _, s := range extents() {
		for range 4 {
			fields = append(fields, fieldThat(s[0], s[1], func(i, k int64) int64 { return oneIf(l.below(10) < 6) }))
		}
	}
	spiral := fieldOf("1111111", "1000001", "1011101", "1010101", "1010001", "1011111", "1000000")
	return append(fields, spiral, fieldOf("1111", "0001", "1101", "1011", "1110"))
}

func TestClustersOf(t *testing.T) {
	yes, no := 0, 0
	for _, f := range fieldsWithClusters() {
		numbers, count := clustersOf(f)
		wantAll(t, named("ClustersOf", f), all(impl.ClustersOf(f)), numbers, count)
		wantOnly(t, named("LeadsThrough", f), all(impl.LeadsThrough(f)), through(f))
		if through(f) {
			yes++
		} else {
			no++
		}
	}
	if yes < 20 || no < 20 {
		t.Errorf("%d fields lead through, %d do not: too few to tell", yes, no)
	}
	wantAll(t, "clusters across corners are apart", all(impl.ClustersOf(fieldOf("101", "010", "101"))), []int64{1, 0, 2, 0, 3, 0, 4, 0, 5}, 5)
	wantAll(t, "clusters do not go round", all(impl.ClustersOf(fieldOf("101", "000", "101"))), []int64{1, 0, 2, 0, 0, 0, 3, 0, 4}, 4)
	wantAll(t, "two parts that are joined below", all(impl.ClustersOf(fieldOf("101", "111"))), []int64{1, 0, 1, 1, 1, 1}, 1)
	wantAll(t, "joined late, with another one between", all(impl.ClustersOf(fieldOf("1010", "1001", "1111"))), []int64{1, 0, 2, 0, 1, 0, 0, 1, 1, 1, 1, 1}, 2)
	wantAll(t, "what is not 1 is in none", all(impl.ClustersOf(fieldOf("2192", "1291"))), []int64{0, 1, 0, 0, 2, 0, 0, 3}, 3)
	wantAll(t, "one cell", all(impl.ClustersOf(fieldOf("1"))), []int64{1}, 1)
	wantAll(t, "one cell of 0", all(impl.ClustersOf(fieldOf("0"))), []int64{0}, 0)
}

func TestLeadsThrough(t *testing.T) {
	for _, c := range []struct {
		f    impl.Field
		want bool
	}{
		{fieldOf("1"), true}, {fieldOf("0"), false}, {fieldOf("2"), false}, {fieldOf("0010"), true}, {fieldOf("0020"), false},
		{fieldOf("1", "1", "1"), true}, {fieldOf("1", "0", "1"), false}, {fieldOf("1", "2", "1"), false},
		{fieldOf("10", "01"), false}, {fieldOf("10", "11", "01"), true}, {fieldOf("010", "111", "000"), false},
		{fieldOf("000", "111", "010"), false}, {fieldOf("1101", "0101", "0111", "0000"), false}, {fieldOf("1101", "0101", "0111", "0001"), true},
		{fieldOf("1000", "1000", "0000", "1000"), false},
	} {
		wantOnly(t, named("LeadsThrough", c.f), all(impl.LeadsThrough(c.f)), c.want)
	}
}

func TestCountThrough(t *testing.T) {
	for rows := int64(-1); rows <= 14; rows++ {
		for columns := int64(-1); columns <= 14; columns++ {
			got := all(impl.CountThrough(rows, columns))
			if rows < 1 || columns < 1 || rows*columns > 12 {
				wantNone(t, named("CountThrough", rows, columns), got)
				continue
			}
			counts := make([]int64, rows*columns+1)
			for _, cells := range textsOf(2, rows*columns) {
				f := impl.Field{Rows: rows, Columns: columns, Cells: cellsOf(cells)}
				if through(f) {
					counts[sumOf(f.Cells)]++
				}
			}
			wantOnly(t, named("CountThrough", rows, columns), got, counts)
		}
	}
	wantOnly(t, "two rows and two columns", all(impl.CountThrough(2, 2)), []int64{0, 0, 2, 4, 1})
	wantOnly(t, "a column", all(impl.CountThrough(12, 1)), append(many(int64(0), 12), 1))
	wantNone(t, "a column of 13", all(impl.CountThrough(13, 1)))
	wantNone(t, "a row of 13", all(impl.CountThrough(1, 13)))
	for _, n := range ends() {
		wantNone(t, "CountThrough far", all(impl.CountThrough(n, 1)))
		wantNone(t, "CountThrough far", all(impl.CountThrough(1, n)))
		wantNone(t, "CountThrough far", all(impl.CountThrough(n, n)))
		wantNone(t, "CountThrough far", all(impl.CountThrough(n, 4)))
		wantNone(t, "CountThrough far", all(impl.CountThrough(1<<62, n)))
	}
}

// drawField returns the field that is drawn, and the seed, told by other
// operations on numbers.
func drawField(rows, columns int64, share float32, seed int64) (impl.Field, int64) {
	next := uint32(seed)
	f := fieldThat(rows, columns, func(i, k int64) int64 {
		next = next*1664525 + 1013904223
		return oneIf(float64(next>>8) < float64(share)*(1<<24))
	})
	return f, int64(next)
}

func TestDrawField(t *testing.T) {
	shares := []float32{0, num(minusZero), num(leastNumber), num(leastNormal), 0x1p-24, 0x1p-23, 0.25, 0.3, 0.5, 0.75, num(0x3f7fffff), 1}
	for _, s := range extents() {
		for _, share := range shares {
			for _, seed := range []int64{0, 1, 12345, 1<<31 - 1, 1 << 31, 1<<32 - 1} {
				f, behind := drawField(s[0], s[1], share, seed)
				wantAll(t, named("DrawField", s, share, seed), all(impl.DrawField(s[0], s[1], share, seed)), f, behind)
			}
		}
		none, _, _ := impl.DrawField(s[0], s[1], 0, 7)
		every, _, _ := impl.DrawField(s[0], s[1], 1, 7)
		wantField(t, "a share of 0", none, evenField(s[0], s[1], 0))
		wantField(t, "a share of 1", every, evenField(s[0], s[1], 1))
	}
	wantAll(t, "three cells", all(impl.DrawField(1, 3, 0.25, 0)), fieldOf("100"), 3519870697)
}

// seedBefore returns the seed that becomes a seed.
func seedBefore(seed uint32) int64 {
	const back = 4276115653 // 1664525 times it is 1, as a remainder by 2^32
	return int64((seed - 1013904223) * back)
}

// The share of a seed is less than share if it is just below it, and not if it
// is equal.
func TestSharesOfSeeds(t *testing.T) {
	for _, k := range []uint32{1, 2, 3, 1000, 1 << 23, 1<<24 - 1} {
		share := float32(k) * 0x1p-24
		for _, low := range []uint32{0, 1, 255} {
			wantAll(t, named("DrawField at the share", k), all(impl.DrawField(1, 1, share, seedBefore(k<<8|low))), fieldOf("0"), k<<8|low)
			wantAll(t, named("DrawField below the share", k), all(impl.DrawField(1, 1, share, seedBefore((k-1)<<8|low))), fieldOf("1"), (k-1)<<8|low)
		}
	}
	wantAll(t, "the greatest share is less than 1", all(impl.DrawField(1, 1, 1, seedBefore(1<<32-1))), fieldOf("1"), int64(1<<32-1))
	wantAll(t, "the share 0 is not less than 0", all(impl.DrawField(1, 1, 0, seedBefore(0))), fieldOf("0"), 0)
}

func TestDrawFieldLimits(t *testing.T) {
	for _, x := range seldom() {
		got := all(impl.DrawField(2, 3, x, 9))
		if x >= 0 && x <= 1 {
			wantBool(t, named("DrawField with the share", x), succeeds(got), true)
		} else {
			wantNone(t, named("DrawField with the share", x), got)
		}
	}
	for _, bits := range []uint32{notANumber, 0xffc00000, 0x7f800001, infinity, minusEndless, 0x3f800001, 0x80000001, 0xbf800000} {
		wantNone(t, "DrawField with another share", all(impl.DrawField(2, 3, num(bits), 9)))
	}
	wantLimits(t, "DrawField with rows", 1, impl.MaxField, func(n int64) []any { return all(impl.DrawField(n, 2, 0.5, 9)) })
	wantLimits(t, "DrawField with columns", 1, impl.MaxField, func(n int64) []any { return all(impl.DrawField(2, n, 0.5, 9)) })
	wantLimits(t, "DrawField with a seed", 0, 1<<32-1, func(n int64) []any { return all(impl.DrawField(2, 2, 0.5, n)) })
	for _, n := range ends() {
		wantNone(t, "DrawField far", all(impl.DrawField(n, n, 0.5, 0)))
	}
}
