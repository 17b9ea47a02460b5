package tests

import (
	"slices"
	"testing"

	"loop.example/g01381/impl"
)

// squares returns square fields: drawn ones, some whose parts are alike, and ones
// without cells, or full.
func squares() []impl.Field {
	l := &luck{277}
	var fields []impl.Field
	for _, side := range []int64{4, 8, 16} {
		fields = append(fields, evenField(side, side, 0), evenField(side, side, 1), chess(side, side), gliderOn(side, 2, 1),
			fieldThat(side, side, func(i, k int64) int64 { return oneIf(i == k) }),
			fieldThat(side, side, func(i, k int64) int64 { return oneIf(i < side/2) }),
			fieldThat(side, side, func(i, k int64) int64 { return oneIf(i == side-1 && k == 0) }))
		for share := range int64(10) {
			fields = append(fields, fieldThat(side, side, func(i, k int64) int64 { return oneIf(l.below(10) <= share) }))
		}
		for _, part := range []int64{2, 4, 8} {
			tile := l.field(part, part, 1)
			fields = append(fields, fieldThat(side, side, func(i, k int64) int64 { return cellAt(tile, i, k, true) }))
			tiles := []impl.Field{tile, l.field(part, part, 1)}
			fields = append(fields, fieldThat(side, side, func(i, k int64) int64 { return cellAt(tiles[(i/part+k/part)%2], i, k, true) }))
		}
	}
	return fields
}

// notSquares returns fields that are valid and plain, but not square here.
func notSquares() []impl.Field {
	var fields []impl.Field
	for _, s := range extents() {
		if s != [2]int64{4, 4} {
			fields = append(fields, evenField(s[0], s[1], 0), evenField(s[0], s[1], 1))
		}
	}
	for _, s := range [][2]int64{{1, 16}, {2, 8}, {8, 2}, {4, 8}, {8, 4}, {8, 16}, {16, 8}, {16, 4}, {5, 5}, {6, 6}, {7, 7}, {9, 9}, {12, 12}, {15, 15}, {17, 17}, {20, 20}, {15, 16}, {16, 17}} {
		fields = append(fields, evenField(s[0], s[1], 0), evenField(s[0], s[1], 1))
	}
	return fields
}

func TestInnerStep(t *testing.T) {
	for _, f := range squares() {
		for _, w := range goodLives() {
			want := partOf(nextLife(w, f, false), 1, 1, f.Rows-2, f.Columns-2)
			wantOnly(t, named("InnerStep", w, f), all(impl.InnerStep(w, f)), want)
		}
	}
	wantOnly(t, "a block", all(impl.InnerStep(conway(), fieldOf("0000", "0110", "0110", "0000"))), fieldOf("11", "11"))
	wantOnly(t, "cells on the border", all(impl.InnerStep(conway(), fieldOf("1110", "0000", "0000", "0000"))), fieldOf("10", "00"))
	wantOnly(t, "no cells, Born 0", all(impl.InnerStep(impl.Life{Born: []int64{0}}, evenField(8, 8, 0))), evenField(6, 6, 1))
}

// Promise 6: inner parts are what many single steps make, whatever is around.
func TestInnerLife(t *testing.T) {
	l := &luck{281}
	for _, f := range squares() {
		for i, w := range goodLives() {
			row, column := l.below(impl.MaxField-f.Rows+1), l.below(impl.MaxField-f.Columns+1)
			around := l.field(impl.MaxField, impl.MaxField, 1)
			sea := must(t)(impl.PasteField(around, f, row, column))
			quarter, half := f.Rows/4, f.Rows/2
			want := partOf(runLife(w, sea, i%2 == 0, quarter), row+quarter, column+quarter, half, half)
			wantOnly(t, named("InnerLife", w, f), all(impl.InnerLife(w, f)), want)
			ran := must(t)(impl.RunLife(w, f, false, quarter))
			wantOnly(t, named("InnerLife and RunLife", w, f), all(impl.InnerLife(w, f)), partOf(ran, quarter, quarter, half, half))
		}
	}
	wantOnly(t, "a glider behind 4 steps", all(impl.InnerLife(conway(), gliderOn(16, 5, 5))), gliderOn(8, 2, 2))
	wantOnly(t, "no cells, Born 0", all(impl.InnerLife(impl.Life{Born: []int64{0}}, evenField(4, 4, 0))), fieldOf("11", "11"))
	wantOnly(t, "no cells, Born 0, two steps", all(impl.InnerLife(impl.Life{Born: []int64{0}}, evenField(8, 8, 0))), evenField(4, 4, 0))
}

// kindsOf returns how many different parts there are.
func kindsOf(f impl.Field) []int64 {
	var counts []int64
	for side := int64(1); side <= f.Rows; side *= 2 {
		seen := map[string]bool{}
		for at := range (f.Rows / side) * (f.Rows / side) {
			seen[shown(partOf(f, at/(f.Rows/side)*side, at%(f.Rows/side)*side, side, side))] = true
		}
		counts = append(counts, int64(len(seen)))
	}
	return counts
}

func TestQuarterKinds(t *testing.T) {
	for _, f := range squares() {
		wantOnly(t, named("QuarterKinds", f), all(impl.QuarterKinds(f)), kindsOf(f))
	}
	for i, side := range []int64{4, 8, 16} {
		wantOnly(t, "no cells", all(impl.QuarterKinds(evenField(side, side, 0))), many(int64(1), i+3))
		wantOnly(t, "a full square", all(impl.QuarterKinds(evenField(side, side, 1))), many(int64(1), i+3))
		wantOnly(t, "a board of chess", all(impl.QuarterKinds(chess(side, side))), append([]int64{2}, many(int64(1), i+2)...))
	}
	wantOnly(t, "all blocks", all(impl.QuarterKinds(everyBlock())), []int64{2, 16, 4, 1})
	// Squares that begin elsewhere, such as the one in the middle, are not parts.
	wantOnly(t, "a cell in the middle", all(impl.QuarterKinds(fieldOf("0000", "0110", "0110", "0000"))), []int64{2, 4, 1})
}

// everyBlock returns the square of 8 with all blocks of two rows and two columns.
func everyBlock() impl.Field {
	return fieldThat(8, 8, func(i, k int64) int64 { return (i/2*4 + k/2) >> (i%2*2 + k%2) & 1 })
}

// treeOf returns the tree of a square, told by a map of the parts' numbers.
func treeOf(f impl.Field) []int64 {
	numbers, tree := map[string]int64{}, []int64{}
	var tell func(part impl.Field) int64
	tell = func(part impl.Field) int64 {
		if part.Rows == 1 {
			return part.Cells[0]
		}
		// All parts of a part that was told have been told, too.
		if n, ok := numbers[shown(part)]; ok {
			return n
		}
		half := part.Rows / 2
		var four []int64
		for _, place := range [][2]int64{{0, 0}, {0, half}, {half, 0}, {half, half}} {
			four = append(four, tell(partOf(part, place[0], place[1], half, half)))
		}
		tree = append(tree, four...)
		numbers[shown(part)] = int64(len(tree))/4 + 1
		return numbers[shown(part)]
	}
	tell(f)
	return tree
}

// Promise 6: fields are read back from their trees.
func TestQuarterTree(t *testing.T) {
	for _, f := range squares() {
		tree := treeOf(f)
		wantOnly(t, named("QuarterTree", f), all(impl.QuarterTree(f)), tree)
		wantOnly(t, named("FieldOfTree", tree), all(impl.FieldOfTree(tree)), f)
		var parts int64
		for _, count := range kindsOf(f)[1:] {
			parts += count
		}
		if int64(len(tree)) != 4*parts {
			t.Errorf("%d parts make %v", parts, tree)
		}
	}
	for i, cells := range textsOf(2, 16) {
		if i%7 == 0 {
			f := impl.Field{Rows: 4, Columns: 4, Cells: cellsOf(cells)}
			tree, _ := impl.QuarterTree(f)
			wantOnly(t, named("FieldOfTree", tree), all(impl.FieldOfTree(tree)), f)
		}
	}
	wantOnly(t, "no cells", all(impl.QuarterTree(evenField(4, 4, 0))), []int64{0, 0, 0, 0, 2, 2, 2, 2})
	wantOnly(t, "a full square of 16", all(impl.QuarterTree(evenField(16, 16, 1))), []int64{1, 1, 1, 1, 2, 2, 2, 2, 3, 3, 3, 3, 4, 4, 4, 4})
	wantOnly(t, "a cell in each quarter", all(impl.QuarterTree(fieldOf("1001", "0000", "0000", "1001"))),
		[]int64{1, 0, 0, 0, 0, 1, 0, 0, 0, 0, 1, 0, 0, 0, 0, 1, 2, 3, 4, 5})
	wantOnly(t, "a part is told by its quarters first", all(impl.QuarterTree(fieldOf("00001000", "00000000", "00000000", "00000000", "00000000", "00000000", "00000000", "00000000"))),
		[]int64{0, 0, 0, 0, 2, 2, 2, 2, 1, 0, 0, 0, 4, 2, 2, 2, 3, 5, 3, 3})
	// Numbers 0 and 1 are those of cells, and others those of parts, for all sides.
	long, _ := impl.QuarterTree(everyBlock())
	if len(long) != 4*(16+4+1) {
		t.Errorf("all blocks make %v", long)
	}
}

// wantTree checks that a list is read as the field whose tree it is, or not at all.
func wantTree(t *testing.T, tree []int64) bool {
	t.Helper()
	f, ok := impl.FieldOfTree(tree)
	if !ok {
		wantNone(t, named("FieldOfTree", tree), all(f, ok))
	} else if !slices.Equal(treeOf(f), tree) {
		t.Errorf("FieldOfTree of %v: got %v, which has another tree", tree, f)
	}
	return ok
}

// Lists that are trees but for one number are read as the field that has this
// tree, if there is one.
func TestChangedTrees(t *testing.T) {
	trees := map[string]bool{}
	for _, cells := range textsOf(2, 16) {
		trees[shown(treeOf(impl.Field{Rows: 4, Columns: 4, Cells: cellsOf(cells)}))] = true
	}
	for _, f := range squares() {
		tree, read := treeOf(f), 0
		for i, n := range tree {
			for _, m := range []int64{-1 << 63, -1, 0, 1, 2, 3, n - 1, n + 1, int64(len(tree))/4 + 1, int64(len(tree))/4 + 2, 1 << 32, 1<<63 - 1} {
				changed := slices.Clone(tree)
				changed[i] = m
				ok := wantTree(t, changed)
				read += int(oneIf(ok))
				if f.Rows == 4 && ok != trees[shown(changed)] && len(changed) < 20 {
					t.Errorf("FieldOfTree of %v: got %v", changed, ok)
				}
			}
		}
		if read < len(tree) {
			t.Errorf("%d of the lists that are nearly %v were read: the tree itself must be", read, tree)
		}
	}
}

// All lists of 8 small numbers are told apart.
func TestAllSmallTrees(t *testing.T) {
	read := 0
	for _, digits := range textsOf(4, 8) {
		tree := cellsOf(digits)
		even := slices.Max(tree[:4]) <= 1 && slices.Equal(tree[4:], []int64{2, 2, 2, 2})
		wantBool(t, named("FieldOfTree", tree), wantTree(t, tree), even)
		read += int(oneIf(even))
	}
	if read != 16 {
		t.Errorf("%d lists were read", read)
	}
}

func TestListsThatAreNoTrees(t *testing.T) {
	for _, tree := range [][]int64{
		nil, {}, {0}, {0, 0, 0}, {0, 0, 0, 0}, {1, 0, 1, 0}, {0, 0, 0, 0, 2}, {0, 0, 0, 0, 2, 2, 2}, {0, 0, 0, 0, 2, 2, 2, 2, 3},
		{2, 2, 2, 2}, {2, 2, 2, 2, 0, 0, 0, 0}, {0, 0, 0, 0, 3, 3, 3, 3}, {0, 0, 0, 0, 2, 2, 2, 0}, {0, 0, 0, 0, 2, 2, 2, 1},
		{0, 0, 0, 0, 0, 0, 0, 0, 2, 2, 2, 2}, {0, 0, 0, 0, 0, 0, 0, 0, 2, 3, 2, 3}, {0, 0, 0, 0, 2, 2, 2, 2, 2, 2, 2, 2},
		{0, 0, 0, 1, 0, 0, 0, 0, 3, 2, 2, 2}, {0, 0, 0, 0, 0, 0, 0, 1, 2, 2, 2, 2}, {0, 0, 0, 1, 0, 0, 0, 0, 3, 3, 3, 3},
		{0, 0, 0, 0, 2, 2, 2, 2, 0, 0, 0, 1}, {0, 0, 0, 0, 2, 2, 2, 2, 2, 3, 2, 3}, {0, 0, 0, 2, 2, 2, 2, 2},
		{0, 0, 0, 0, 2, 2, 2, 2, 3, 3, 3, 3, 4, 4, 4, 4, 5, 5, 5, 5}, {-1, 0, 0, 0, 2, 2, 2, 2}, {0, 0, 0, 0, -2, -2, -2, -2},
	} {
		wantNone(t, named("FieldOfTree", tree), all(impl.FieldOfTree(tree)))
	}
	for _, n := range ends() {
		wantNone(t, "FieldOfTree far", all(impl.FieldOfTree([]int64{0, 0, 0, 0, n, n, n, n})))
		wantNone(t, "FieldOfTree far", all(impl.FieldOfTree([]int64{n, 0, 0, 0, 2, 2, 2, 2})))
	}
	for _, f := range squares() {
		tree := treeOf(f)
		// Four times the whole square makes one that is twice as large.
		last := int64(len(tree))/4 + 1
		more := all(impl.FieldOfTree(append(slices.Clone(tree), last, last, last, last)))
		if f.Rows == 16 {
			wantNone(t, "a square of 32", more)
		} else {
			wantOnly(t, "a square of four", more, fieldThat(2*f.Rows, 2*f.Rows, func(i, k int64) int64 { return cellAt(f, i, k, true) }))
		}
		wantNone(t, "a part that is never used", all(impl.FieldOfTree(withUnused(tree))))
		wantNone(t, "the last part twice", all(impl.FieldOfTree(append(slices.Clone(tree), tree[len(tree)-4:]...))))
		wantNone(t, "a tree less its last number", all(impl.FieldOfTree(tree[:len(tree)-1])))
		wantNone(t, "a tree and a number", all(impl.FieldOfTree(append(slices.Clone(tree), 0))))
		wantTree(t, tree[:len(tree)-4])
		if swapped := otherOrder(tree); swapped != nil {
			wantNone(t, "parts in another order", all(impl.FieldOfTree(swapped)))
		}
	}
	// Many parts are at most of limited length, and then not a tree.
	for _, n := range []int{1020, 1024, 1028, 4096} {
		wantNone(t, named("FieldOfTree of many numbers", n), all(impl.FieldOfTree(make([]int64, n))))
		wantNone(t, named("FieldOfTree of many parts", n), all(impl.FieldOfTree(deep(n))))
	}
}

// withUnused returns a list that tells the same square as a tree, with a part
// before all others that this does not have, or that is its first one.
func withUnused(tree []int64) []int64 {
	list := slices.Clone(tree[:4])
	for _, digits := range textsOf(2, 4) {
		used := false
		for four := range slices.Chunk(tree, 4) {
			used = used || slices.Equal(four, cellsOf(digits))
		}
		if !used {
			list = cellsOf(digits)
		}
	}
	for _, n := range tree {
		if n >= 2 {
			n++
		}
		list = append(list, n)
	}
	return list
}

// otherOrder returns a list that tells the same square, with its first two parts
// exchanged, if these are both of two rows and different, or nil.
func otherOrder(tree []int64) []int64 {
	if max(slices.Max(tree[:4]), slices.Max(tree[4:8])) > 1 {
		return nil
	}
	list := slices.Concat(tree[4:8], tree[:4], tree[8:])
	for i, n := range list {
		if n == 2 || n == 3 {
			list[i] = 5 - n
		}
	}
	return list
}

// deep returns a list of n numbers, each part of which has the one before it four
// times.
func deep(n int) []int64 {
	list := make([]int64, n)
	for i := 4; i < n; i++ {
		list[i] = int64(i/4) + 1
	}
	return list
}

func TestOtherExtentsAreNotSquare(t *testing.T) {
	for _, f := range notSquares() {
		wantNone(t, named("InnerStep", f), all(impl.InnerStep(conway(), f)))
		wantNone(t, named("InnerLife", f), all(impl.InnerLife(conway(), f)))
		wantNone(t, named("QuarterKinds", f), all(impl.QuarterKinds(f)))
		wantNone(t, named("QuarterTree", f), all(impl.QuarterTree(f)))
	}
}
