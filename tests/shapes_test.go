package tests

import (
	"slices"
	"testing"

	"loop.example/g01381/impl"
)

func TestTrimField(t *testing.T) {
	for _, f := range patterns() {
		got := all(impl.TrimField(f))
		if !slices.Contains(f.Cells, 1) {
			wantNone(t, named("TrimField", f), got)
			continue
		}
		part, row, column := trimOf(f)
		wantAll(t, named("TrimField", f), got, part, row, column)
		// What was trimmed grows back.
		back, _ := impl.PasteField(evenField(f.Rows, f.Columns, 0), part, row, column)
		wantField(t, "the part at its place", back, f)
		wantAll(t, "TrimField of what is trimmed", all(impl.TrimField(part)), part, 0, 0)
	}
	for row := range int64(impl.MaxField) {
		for column := range int64(impl.MaxField) {
			f := evenField(impl.MaxField, impl.MaxField, 0)
			f.Cells[row*impl.MaxField+column] = 1
			wantAll(t, "TrimField of one cell", all(impl.TrimField(f)), fieldOf("1"), row, column)
		}
	}
	wantAll(t, "two corners", all(impl.TrimField(fieldOf("000", "001", "100", "000"))), fieldOf("001", "100"), 1, 0)
	wantAll(t, "a part with a column without cells", all(impl.TrimField(fieldOf("0000", "0101"))), fieldOf("101"), 1, 1)
	wantNone(t, "one cell of 0", all(impl.TrimField(fieldOf("0"))))
	wantNone(t, "no cells", all(impl.TrimField(evenField(impl.MaxField, impl.MaxField, 0))))
}

func TestGrowField(t *testing.T) {
	for _, f := range patterns() {
		for by := int64(-2); by <= impl.MaxField+2; by++ {
			got := all(impl.GrowField(f, by))
			if by < 0 || max(f.Rows, f.Columns)+2*by > impl.MaxField {
				wantNone(t, named("GrowField", f, by), got)
				continue
			}
			wantOnly(t, named("GrowField", f, by), got, grown(f, by))
			if by > 0 && slices.Contains(f.Cells, 1) {
				part, row, column := trimOf(f)
				wide, _ := impl.GrowField(f, by)
				wantAll(t, "TrimField of what has grown", all(impl.TrimField(wide)), part, row+by, column+by)
			}
		}
	}
	for _, c := range []struct {
		rows, columns, most int64
	}{{1, 1, 11}, {2, 2, 11}, {3, 3, 10}, {24, 1, 0}, {1, 24, 0}, {24, 24, 0}, {22, 3, 1}, {4, 20, 2}, {23, 23, 0}} {
		wantLimits(t, "GrowField", 0, c.most, func(n int64) []any { return all(impl.GrowField(evenField(c.rows, c.columns, 1), n)) })
	}
	wantOnly(t, "a cell with others around", all(impl.GrowField(fieldOf("1"), 1)), fieldOf("000", "010", "000"))
	wantOnly(t, "a row with others around", all(impl.GrowField(fieldOf("101"), 1)), fieldOf("00000", "01010", "00000"))
}

func TestImagesOfField(t *testing.T) {
	for _, f := range patterns() {
		wantOnly(t, named("ImagesOfField", f), all(impl.ImagesOfField(f)), eightImages(f))
		// They are what the functions of chapter 4 make, one after another.
		turned, mirrored := f, must(t)(impl.MirrorField(f))
		list, _ := impl.ImagesOfField(f)
		for i := range 4 {
			wantField(t, "a turned image", list[i], turned)
			wantField(t, "a mirrored and turned image", list[4+i], mirrored)
			turned, mirrored = must(t)(impl.TurnField(turned)), must(t)(impl.TurnField(mirrored))
		}
	}
	wantOnly(t, "two rows", all(impl.ImagesOfField(fieldOf("110", "000"))), []impl.Field{
		fieldOf("110", "000"), fieldOf("01", "01", "00"), fieldOf("000", "011"), fieldOf("00", "10", "10"),
		fieldOf("011", "000"), fieldOf("00", "01", "01"), fieldOf("000", "110"), fieldOf("10", "10", "00"),
	})
	wantOnly(t, "one cell", all(impl.ImagesOfField(fieldOf("1"))), many(fieldOf("1"), 8))
	apart, _ := impl.ImagesOfField(fieldOf("110", "000"))
	wantApart(t, cellLists(apart))
}

func TestNameOf(t *testing.T) {
	for _, f := range patterns() {
		name := nameOf(f)
		wantOnly(t, named("NameOf", f), all(impl.NameOf(f)), name)
		for _, image := range eightImages(f) {
			wantOnly(t, "NameOf of an image", all(impl.NameOf(image)), name)
		}
		if f.Rows < impl.MaxField && f.Columns < impl.MaxField {
			wide := partOf(f, -1, 0, f.Rows+1, f.Columns+1)
			wantOnly(t, "NameOf elsewhere", all(impl.NameOf(wide)), name)
		}
		if name == "" {
			continue
		}
		// A name is the text of an image.
		part, _, _ := trimOf(f)
		told := shown(must(t)(impl.ReadRuns(name)))
		wantBool(t, "a name is the text of an image", slices.ContainsFunc(eightImages(part), func(image impl.Field) bool {
			return shown(image) == told
		}), true)
	}
	for _, c := range []struct {
		f    impl.Field
		name string
	}{
		{fieldOf("0"), ""}, {evenField(24, 24, 0), ""}, {fieldOf("1"), "1,1:o!"}, {fieldOf("0", "1"), "1,1:o!"},
		{fieldOf("11"), "1,2:o$o!"}, {fieldOf("1", "1"), "1,2:o$o!"}, {fieldOf("01", "10"), "2,2:bo$o!"}, {fieldOf("10", "01"), "2,2:bo$o!"},
		{fieldOf("11", "11"), "2,2:2o$2o!"}, {fieldOf("11", "10"), "2,2:2o$bo!"}, {fieldOf("01", "11"), "2,2:2o$bo!"},
		{evenField(1, 24, 1), "1,24:" + written(evenField(24, 1, 1))[5:]}, {fieldOf("1010"), "1,3:o$$o!"},
		// The order of texts is not that of numbers: 10 is before 2.
		{fieldOf("1111111111", "0000000001"), "10,2:10o$9bo!"},
	} {
		wantOnly(t, named("NameOf", c.f), all(impl.NameOf(c.f)), c.name)
	}
}

func TestSameShape(t *testing.T) {
	l := &luck{229}
	var fields []impl.Field
	for range 60 {
		fields = append(fields, l.field(1+l.below(3), 1+l.below(3), 1))
	}
	same := 0
	for _, a := range append(fields, fieldOf("0"), fieldOf("000", "000"), evenField(24, 24, 0)) {
		for _, b := range fields {
			want := nameOf(a) == nameOf(b)
			wantOnly(t, named("SameShape", a, b), all(impl.SameShape(a, b)), want)
			same += int(oneIf(want))
		}
	}
	if same < 100 || same > 3000 {
		t.Errorf("%d pairs have the same shape: too few, or too many, to tell", same)
	}
	wantOnly(t, "no cells in both", all(impl.SameShape(fieldOf("0"), evenField(3, 24, 0))), true)
	wantOnly(t, "no cells in one", all(impl.SameShape(fieldOf("0"), fieldOf("1"))), false)
	wantOnly(t, "as many cells", all(impl.SameShape(fieldOf("110", "011"), fieldOf("111", "100"))), false)
	for _, f := range patterns() {
		wantOnly(t, "SameShape of the field", all(impl.SameShape(f, f)), true)
		for _, image := range eightImages(f) {
			wantOnly(t, "SameShape of an image", all(impl.SameShape(f, image)), true)
		}
	}
}

func TestPartsOf(t *testing.T) {
	most := 0
	for _, f := range patterns() {
		var parts []impl.Field
		var places []int64
		for _, alone := range partsOf(f) {
			part, row, column := trimOf(alone)
			parts, places = append(parts, part), append(places, row, column)
		}
		wantAll(t, named("PartsOf", f), all(impl.PartsOf(f)), parts, places)
		wantParts(t, f)
		most = max(most, len(parts))
	}
	if most < 30 {
		t.Errorf("%d parts at most: too few to tell", most)
	}
	dots := fieldThat(24, 24, func(i, k int64) int64 { return (1 - i%2) * (1 - k%2) })
	parts, places, _ := impl.PartsOf(dots)
	if len(parts) != 144 || len(places) != 288 || places[286] != 22 || places[287] != 22 {
		t.Errorf("%d parts, and places %v", len(parts), places)
	}
}

// wantParts checks that parts have all cells of a field, each at its place, and
// that no two of them touch.
func wantParts(t *testing.T, f impl.Field) {
	t.Helper()
	parts, places, _ := impl.PartsOf(f)
	owner := evenField(f.Rows, f.Columns, 0)
	for n, part := range parts {
		row, column := places[2*n], places[2*n+1]
		for at, x := range part.Cells {
			if x == 1 {
				owner.Cells[(row+int64(at)/part.Columns)*f.Columns+column+int64(at)%part.Columns] += int64(n) + 1
			}
		}
		wantAll(t, "a part has one part", all(impl.PartsOf(part)), []impl.Field{part}, []int64{0, 0})
	}
	for at, n := range owner.Cells {
		if (n > 0) != (f.Cells[at] == 1) {
			t.Errorf("the cell %d of %v is in the parts %d", at, f, n)
		}
		for other, m := range owner.Cells {
			if n > 0 && m > 0 && n != m && beside(f, at, other) {
				t.Errorf("the parts %d and %d of %v touch", n, m, f)
			}
		}
	}
}

func TestPartsThatAreKnown(t *testing.T) {
	for _, c := range []struct {
		f      impl.Field
		parts  []impl.Field
		places []int64
	}{
		{fieldOf("0"), nil, nil}, {fieldOf("1"), []impl.Field{fieldOf("1")}, []int64{0, 0}}, {evenField(24, 24, 0), nil, nil},
		{fieldOf("100", "010", "001"), []impl.Field{fieldOf("100", "010", "001")}, []int64{0, 0}},
		{fieldOf("0001", "0010", "1100"), []impl.Field{fieldOf("0001", "0010", "1100")}, []int64{0, 0}},
		// A part can begin to the left of its first cell.
		{fieldOf("1001", "0010", "0000", "0100"), []impl.Field{fieldOf("1"), fieldOf("01", "10"), fieldOf("1")}, []int64{0, 0, 0, 2, 3, 1}},
		{fieldOf("11111", "10001", "10101", "10001", "11111"),
			[]impl.Field{fieldOf("11111", "10001", "10001", "10001", "11111"), fieldOf("1")}, []int64{0, 0, 2, 2}},
		// Parts do not go round.
		{fieldOf("1001", "0000", "1001"), many(fieldOf("1"), 4), []int64{0, 0, 0, 3, 2, 0, 2, 3}},
		{fieldOf("101", "101", "010"), []impl.Field{fieldOf("101", "101", "010")}, []int64{0, 0}},
		{fieldOf("10101"), many(fieldOf("1"), 3), []int64{0, 0, 0, 2, 0, 4}},
		{fieldOf("1", "0", "1", "1"), []impl.Field{fieldOf("1"), fieldOf("1", "1")}, []int64{0, 0, 2, 0}},
	} {
		wantAll(t, named("PartsOf", c.f), all(impl.PartsOf(c.f)), c.parts, c.places)
	}
	parts, places, _ := impl.PartsOf(fieldOf("1001", "0010", "0000", "0100"))
	wantApart(t, append(cellLists(parts), places))
}

func TestCensusOf(t *testing.T) {
	for _, f := range patterns() {
		wantAll(t, named("CensusOf", f), all(impl.CensusOf(f)), censusOf(f)...)
	}
	wantAll(t, "no cells", all(impl.CensusOf(evenField(5, 5, 0))), []string{}, []int64{})
	wantAll(t, "no cell", all(impl.CensusOf(fieldOf("0"))), []string{}, []int64{})
	wantAll(t, "one cell", all(impl.CensusOf(fieldOf("1"))), []string{"1,1:o!"}, []int64{1})
	wantAll(t, "a row and a column, and two cells", all(impl.CensusOf(fieldOf("11101", "00000", "10101", "00001", "10001"))),
		[]string{"1,1:o!", "1,3:o$o$o!"}, []int64{4, 2})
	wantAll(t, "144 cells", all(impl.CensusOf(fieldThat(24, 24, func(i, k int64) int64 { return (i % 2) * (k % 2) }))),
		[]string{"1,1:o!"}, []int64{144})
}

// shapesOf returns all shapes with n cells that are one part, each once.
func shapesOf(n int) []impl.Field {
	shapes := []impl.Field{fieldOf("1")}
	for range n - 1 {
		seen, next := map[string]bool{}, []impl.Field{}
		for _, shape := range shapes {
			wide := grown(shape, 1)
			for at, x := range wide.Cells {
				more := impl.Field{Rows: wide.Rows, Columns: wide.Columns, Cells: slices.Clone(wide.Cells)}
				more.Cells[at] = 1
				if name := nameOf(more); x == 0 && len(partsOf(more)) == 1 && !seen[name] {
					seen[name] = true
					part, _, _ := trimOf(more)
					next = append(next, part)
				}
			}
		}
		shapes = next
	}
	return shapes
}

// placesTaken returns how many places a shape takes, with those to the right,
// below, and below to the right of its cells, so that no two parts take the same.
func placesTaken(shape impl.Field) int {
	wide, count := partOf(shape, -1, -1, shape.Rows+1, shape.Columns+1), 0
	for i := range wide.Rows {
		for k := range wide.Columns {
			if hasOnes(wide, i, k, 2, 2) {
				count++
			}
		}
	}
	return count
}

// pressed returns a field with as many different shapes as there is room for,
// those that take few places first, and how many they are.
func pressed(shapes []impl.Field) (impl.Field, int) {
	f, count := evenField(impl.MaxField, impl.MaxField, 0), 0
	put := func(shape impl.Field) bool {
		for at := range f.Cells {
			row, column := int64(at)/f.Columns, int64(at)%f.Columns
			if row+shape.Rows > f.Rows || column+shape.Columns > f.Columns {
				continue
			}
			free := true
			for i, x := range shape.Cells {
				row, column := row+int64(i)/shape.Columns, column+int64(i)%shape.Columns
				free = free && (x == 0 || !hasOnes(f, row-1, column-1, 3, 3))
			}
			if !free {
				continue
			}
			for i, x := range shape.Cells {
				f.Cells[(row+int64(i)/shape.Columns)*f.Columns+column+int64(i)%shape.Columns] |= x
			}
			return true
		}
		return false
	}
	for _, shape := range shapes {
		if put(shape) {
			count++
		}
	}
	return f, count
}

// More than MaxKinds names cannot be on a field, so that nothing tests that they
// make CensusOf fail: its parts take at most 25 times 25 places, and those with
// the MaxKinds + 1 shapes that take the fewest places would take more. Shapes of
// 6 cells and more take at least 12.
func TestManyKinds(t *testing.T) {
	shapes := slices.Concat(shapesOf(1), shapesOf(2), shapesOf(3), shapesOf(4), shapesOf(5))
	slices.SortStableFunc(shapes, func(a, b impl.Field) int { return placesTaken(a) - placesTaken(b) })
	places := 0
	for _, shape := range shapes[:impl.MaxKinds+1] {
		places += min(placesTaken(shape), 12)
	}
	if places <= (impl.MaxField+1)*(impl.MaxField+1) {
		t.Errorf("%d kinds take %d places only", impl.MaxKinds+1, places)
	}
	f, count := pressed(shapes)
	census := censusOf(f)
	if names := census[0].([]string); count < 40 || len(names) != count {
		t.Errorf("%d shapes with %d names on %v", count, len(names), f)
	}
	wantAll(t, "CensusOf of many kinds", all(impl.CensusOf(f)), census...)
}
