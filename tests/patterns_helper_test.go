package tests

import (
	"fmt"
	"regexp"
	"slices"
	"strconv"
	"strings"
	"testing"

	"loop.example/g01381/impl"
)

// partOf returns a part of a field, with cells of 0 beyond it.
func partOf(f impl.Field, row, column, rows, columns int64) impl.Field {
	return fieldThat(rows, columns, func(i, k int64) int64 { return cellAt(f, row+i, column+k, false) })
}

// grown returns a field with cells of 0 around it.
func grown(f impl.Field, by int64) impl.Field {
	return partOf(f, -by, -by, f.Rows+2*by, f.Columns+2*by)
}

// rowTexts returns the rows of a field as texts.
func rowTexts(f impl.Field) []string {
	var rows []string
	for row := range slices.Chunk(f.Cells, int(f.Columns)) {
		rows = append(rows, textOf(row))
	}
	return rows
}

// writtenRow returns the runs of a row that is told as a text.
func writtenRow(row string) string {
	text := ""
	for row = strings.TrimRight(row, "0"); row != ""; {
		rest := strings.TrimLeft(row, row[:1])
		if long := len(row) - len(rest); long > 1 {
			text += strconv.Itoa(long)
		}
		text += string("bo"[row[0]-'0'])
		row = rest
	}
	return text
}

// written returns the text of a field, told by the texts of its rows.
func written(f impl.Field) string {
	var rows []string
	for _, row := range rowTexts(f) {
		rows = append(rows, writtenRow(row))
	}
	return fmt.Sprintf("%d,%d:%s!", f.Columns, f.Rows, strings.Join(rows, "$"))
}

var (
	textForm = regexp.MustCompile(`^([1-9][0-9]?),([1-9][0-9]?):([0-9bo$]*)!$`)
	rowForm  = regexp.MustCompile(`^(([2-9]|[1-9][0-9])?[bo])*$`)
	runForm  = regexp.MustCompile(`([0-9]*)([bo])`)
)

// readRow returns the cells of a row of some columns as a text, if it is written
// as the document says.
func readRow(s string, columns int) (string, bool) {
	if !rowForm.MatchString(s) || strings.HasSuffix(s, "b") {
		return "", false
	}
	row, last := "", ""
	for _, run := range runForm.FindAllStringSubmatch(s, -1) {
		if run[2] == last {
			return "", false
		}
		long, state := 1, "0"
		if run[1] != "" {
			long, _ = strconv.Atoi(run[1])
		}
		if run[2] == "o" {
			state = "1"
		}
		row, last = row+strings.Repeat(state, long), run[2]
	}
	if len(row) > columns {
		return "", false
	}
	return row + strings.Repeat("0", columns-len(row)), true
}

// readText returns what ReadRuns does, told by the forms of texts, rows and runs.
func readText(s string) []any {
	none := []any{impl.Field{}, false}
	parts := textForm.FindStringSubmatch(s)
	if parts == nil {
		return none
	}
	columns, _ := strconv.Atoi(parts[1])
	rows, _ := strconv.Atoi(parts[2])
	lines := strings.Split(parts[3], "$")
	if columns > impl.MaxField || rows > impl.MaxField || len(lines) != rows {
		return none
	}
	var cells []string
	for _, line := range lines {
		row, ok := readRow(line, columns)
		if !ok {
			return none
		}
		cells = append(cells, row)
	}
	return []any{fieldOf(cells...), true}
}

// hasOnes reports whether a row or a column, or a part of a field, has a 1.
func hasOnes(f impl.Field, row, column, rows, columns int64) bool {
	return slices.Contains(partOf(f, row, column, rows, columns).Cells, 1)
}

// trimOf returns the part of a field, which has a 1, that is left when rows and
// columns without a 1 are taken away from its sides, and where it is.
func trimOf(f impl.Field) (impl.Field, int64, int64) {
	var row, column int64
	rows, columns := f.Rows, f.Columns
	for !hasOnes(f, row, 0, 1, f.Columns) {
		row, rows = row+1, rows-1
	}
	for !hasOnes(f, row+rows-1, 0, 1, f.Columns) {
		rows--
	}
	for !hasOnes(f, 0, column, f.Rows, 1) {
		column, columns = column+1, columns-1
	}
	for !hasOnes(f, 0, column+columns-1, f.Rows, 1) {
		columns--
	}
	return partOf(f, row, column, rows, columns), row, column
}

// eightImages returns the images of a field in the document's order, each one
// told by where its cells come from.
func eightImages(f impl.Field) []impl.Field {
	lastRow, lastColumn := f.Rows-1, f.Columns-1
	at := func(row, column int64) int64 { return cellAt(f, row, column, false) }
	return []impl.Field{
		fieldThat(f.Rows, f.Columns, func(i, k int64) int64 { return at(i, k) }),
		fieldThat(f.Columns, f.Rows, func(i, k int64) int64 { return at(lastRow-k, i) }),
		fieldThat(f.Rows, f.Columns, func(i, k int64) int64 { return at(lastRow-i, lastColumn-k) }),
		fieldThat(f.Columns, f.Rows, func(i, k int64) int64 { return at(k, lastColumn-i) }),
		fieldThat(f.Rows, f.Columns, func(i, k int64) int64 { return at(i, lastColumn-k) }),
		fieldThat(f.Columns, f.Rows, func(i, k int64) int64 { return at(lastRow-k, lastColumn-i) }),
		fieldThat(f.Rows, f.Columns, func(i, k int64) int64 { return at(lastRow-i, k) }),
		fieldThat(f.Columns, f.Rows, func(i, k int64) int64 { return at(k, i) }),
	}
}

// nameOf returns the name of a field.
func nameOf(f impl.Field) string {
	if !slices.Contains(f.Cells, 1) {
		return ""
	}
	part, _, _ := trimOf(f)
	var texts []string
	for _, image := range eightImages(part) {
		texts = append(texts, written(image))
	}
	slices.Sort(texts)
	return texts[0]
}

// beside reports whether two places of a field are one, or neighbours.
func beside(f impl.Field, a, b int) bool {
	rows, columns := int64(a)/f.Columns-int64(b)/f.Columns, int64(a)%f.Columns-int64(b)%f.Columns
	return rows*rows <= 1 && columns*columns <= 1
}

// partsOf returns the parts of a field, each one alone in a field as large, told
// by another way than by walking: parts that have neighbours become one.
func partsOf(f impl.Field) []impl.Field {
	var parts [][]int
	for at, x := range f.Cells {
		if x == 0 {
			continue
		}
		one, others := []int{at}, [][]int{}
		for _, part := range parts {
			if slices.ContainsFunc(part, func(other int) bool { return beside(f, at, other) }) {
				one = append(one, part...)
			} else {
				others = append(others, part)
			}
		}
		parts = append(others, one)
	}
	slices.SortFunc(parts, func(a, b []int) int { return slices.Min(a) - slices.Min(b) })
	var fields []impl.Field
	for _, part := range parts {
		alone := evenField(f.Rows, f.Columns, 0)
		for _, at := range part {
			alone.Cells[at] = 1
		}
		fields = append(fields, alone)
	}
	return fields
}

// censusOf returns the names of the parts of a field, and how often each is there.
func censusOf(f impl.Field) []any {
	often := map[string]int64{}
	for _, part := range partsOf(f) {
		often[nameOf(part)]++
	}
	var names []string
	for name := range often {
		names = append(names, name)
	}
	slices.Sort(names)
	var counts []int64
	for _, name := range names {
		counts = append(counts, often[name])
	}
	return []any{names, counts}
}

// allFields calls each with all plain fields of some rows and columns, in order.
func allFields(rows, columns int64, each func(f impl.Field)) {
	for _, cells := range textsOf(2, rows*columns) {
		each(impl.Field{Rows: rows, Columns: columns, Cells: cellsOf(cells)})
	}
}

// patterns returns fields with few and with many cells, and some that are known.
func patterns() []impl.Field {
	l := &luck{223}
	fields := drawnFields(227, 1)
	for _, s := range extents() {
		for _, share := range []int64{1, 2, 7, 9} {
			fields = append(fields, fieldThat(s[0], s[1], func(i, k int64) int64 { return oneIf(l.below(10) < share) }))
		}
	}
	return append(fields,
		fieldOf("00000", "01010", "00100", "01010", "00000"), fieldOf("11111", "10001", "10101", "10001", "11111"),
		fieldOf("1111111", "1000001", "1011101", "1010101", "1010001", "1011111", "1000000"),
		fieldOf("0000000", "0111000", "0000000", "0000110", "0000110", "0000000"),
		chess(impl.MaxField, impl.MaxField), chess(7, 9), gliderOn(24, 9, 4),
	)
}

// chess returns a field whose cells beside one another differ.
func chess(rows, columns int64) impl.Field {
	return fieldThat(rows, columns, func(i, k int64) int64 { return (i + k + 1) % 2 })
}

// wantEach checks a call that succeeds with the results that are told by another
// way, or fails, with zero values, as it does.
func wantEach(t *testing.T, what string, got, want []any) {
	t.Helper()
	if shown(got...) != shown(want...) {
		t.Errorf("%s: got %s, want %s", what, shown(got...), shown(want...))
	}
}
