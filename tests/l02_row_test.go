package tests

import (
	"cmp"
	"math"
	"slices"
	"strings"
	"testing"

	"loop.example/g01920/impl"
)

func TestRowLimits(t *testing.T) {
	if impl.MaxKey != 9 || impl.MaxValue != 99 || impl.MaxWidth != 3 || impl.MaxRows != 24 {
		t.Error("the limits are not those of the document")
	}
	for _, row := range validEdgeRows() {
		if !impl.IsValidRow(row) || !impl.AreValidRows([]impl.Row{row}) {
			t.Errorf("%v is rejected", row)
		}
	}
	for _, row := range invalidRows() {
		if impl.IsValidRow(row) || impl.AreValidRows([]impl.Row{row}) {
			t.Errorf("%v is accepted", row)
		}
	}
}

func TestRowWhoseWidthIsOneTooLarge(t *testing.T) {
	widest := impl.Row{Key: 1, Value: 1, Width: 3}
	wider := impl.Row{Key: 1, Value: 1, Width: 4}
	if !impl.IsValidRow(widest) || impl.IsValidRow(wider) {
		t.Error("IsValidRow")
	}
	if !impl.AreValidRows([]impl.Row{widest}) || impl.AreValidRows([]impl.Row{widest, wider}) {
		t.Error("AreValidRows")
	}
	if impl.RowCost(widest) != 4 || impl.RowCost(wider) != 0 {
		t.Error("RowCost")
	}
	if impl.TotalCost([]impl.Row{widest, wider, widest}) != 8 {
		t.Error("TotalCost")
	}
	if impl.CompareRows(widest, wider) != -1 || impl.CompareRows(wider, wider) != 0 {
		t.Error("CompareRows")
	}
	if impl.FormatRow(widest) != "1.1.3" || impl.FormatRow(wider) != "" {
		t.Error("FormatRow")
	}
	if impl.FormatRows([]impl.Row{widest}) != "1.1.3" || impl.FormatRows([]impl.Row{widest, wider}) != "" {
		t.Error("FormatRows")
	}
	expectRow(t, "1.1.3", widest, true)
	expectRow(t, "1.1.4", impl.Row{}, false)
	expectRows(t, "1.1.3 1.1.3", []impl.Row{widest, widest}, true)
	expectRows(t, "1.1.3 1.1.4", nil, false)
}

func TestAreValidRowsLimitOfTheNumberOfRows(t *testing.T) {
	if !impl.AreValidRows(nil) || !impl.AreValidRows([]impl.Row{}) {
		t.Error("no rows are rejected")
	}
	for count := range 60 {
		if got, want := impl.AreValidRows(make([]impl.Row, count)), count <= 24; got != want {
			t.Errorf("AreValidRows of %d valid rows is %v", count, got)
		}
	}
}

func TestAreValidRowsLooksAtEveryRow(t *testing.T) {
	for count := 1; count <= 24; count++ {
		for i := range count {
			for _, row := range invalidRows() {
				rows := manyRows(count)
				rows[i] = row
				if impl.AreValidRows(rows) {
					t.Errorf("AreValidRows accepts %v at index %d of %d", row, i, count)
				}
			}
		}
	}
}

func TestRowCostIsOnePlusWidth(t *testing.T) {
	for _, row := range allRows() {
		if got := impl.RowCost(row); got != 1+row.Width {
			t.Errorf("RowCost(%v) = %d", row, got)
		}
	}
	for _, row := range invalidRows() {
		if got := impl.RowCost(row); got != 0 {
			t.Errorf("RowCost(%v) = %d, want 0", row, got)
		}
	}
}

func TestTotalCostAddsTheCosts(t *testing.T) {
	cases := []struct {
		rows []impl.Row
		want int
	}{
		{nil, 0},
		{[]impl.Row{}, 0},
		{[]impl.Row{{}}, 1},
		{[]impl.Row{{Key: 3, Value: 99, Width: 2}, {}}, 4},
		{[]impl.Row{{Width: 3}, {Width: 0}, {Width: 1}, {Width: 2}}, 10},
		{[]impl.Row{{Width: 1}, {Width: 4}, {Width: -1}, {Key: 10}, {Value: 100}, {Width: 2}}, 5},
		{invalidRows(), 0},
		{make([]impl.Row, 25), 25},
		{allRows(), 10000},
		{append(invalidRows(), allRows()...), 10000},
	}
	for i, c := range cases {
		if got := impl.TotalCost(c.rows); got != c.want {
			t.Errorf("case %d: TotalCost of %d rows is %d, want %d", i, len(c.rows), got, c.want)
		}
	}
}

func TestCompareRowsOfEveryPairInOrder(t *testing.T) {
	numbers := []int{math.MinInt, -1, 0, 1, 5, 100, math.MaxInt}
	var ascending []impl.Row
	for _, key := range numbers {
		for _, value := range numbers {
			for _, width := range numbers {
				ascending = append(ascending, impl.Row{Key: key, Value: value, Width: width})
			}
		}
	}
	expectAscending(t, "CompareRows", ascending, impl.CompareRows)
}

func TestFormatRowExamples(t *testing.T) {
	cases := []struct {
		row  impl.Row
		want string
	}{
		{impl.Row{Key: 3, Value: 99, Width: 2}, "3.99.2"},
		{impl.Row{}, "0.0.0"},
		{impl.Row{Key: 9, Value: 99, Width: 3}, "9.99.3"},
		{impl.Row{Key: 1, Value: 2, Width: 3}, "1.2.3"},
		{impl.Row{Key: 7, Value: 10}, "7.10.0"},
	}
	for _, c := range cases {
		if got := impl.FormatRow(c.row); got != c.want {
			t.Errorf("FormatRow(%v) = %q, want %q", c.row, got, c.want)
		}
		expectRow(t, c.want, c.row, true)
		if got := impl.FormatRows([]impl.Row{c.row}); got != c.want {
			t.Errorf("FormatRows of %v alone = %q, want %q", c.row, got, c.want)
		}
		expectRows(t, c.want, []impl.Row{c.row}, true)
	}
	for _, row := range invalidRows() {
		if got := impl.FormatRow(row); got != "" {
			t.Errorf("FormatRow(%v) = %q, want no bytes", row, got)
		}
	}
}

func TestParseRowOfEveryRow(t *testing.T) {
	formats := rowsByFormat()
	if len(formats) != 4000 {
		t.Fatalf("the 4000 rows have %d formats", len(formats))
	}
	for format, row := range formats {
		expectRow(t, format, row, true)
	}
}

func TestParseRowOfEveryShortString(t *testing.T) {
	formats := rowsByFormat()
	for _, s := range append(stringsUpTo(6, []byte("01349.- ")), stringsUpTo(2, allBytes())...) {
		row, ok := formats[s]
		expectRow(t, s, row, ok)
	}
}

func TestParseRowOfEveryChangedByte(t *testing.T) {
	formats := rowsByFormat()
	for _, valid := range []string{"0.0.0", "3.99.2", "9.10.3"} {
		for _, s := range stringsNear(valid) {
			row, ok := formats[s]
			expectRow(t, s, row, ok)
		}
	}
}

func TestParseRowRejectsOtherFormats(t *testing.T) {
	for _, s := range []string{
		"", ".", "..", "...", "1", "1.2", "1.2.", ".2.3", "1..3", "1.2.3.", ".1.2.3", "1.2.3.0", "1.2.3.4.5.6",
		"01.1.1", "1.01.1", "1.1.01", "-1.1.1", "1.-1.1", "1.1.-1", "-0.1.1", "1.-0.1", "1.1.-0",
		"+1.1.1", "1.+1.1", "1.1.+1", " 1.1.1", "1.1.1 ", "1. 1.1", "1.1.1\n", "1.1.1\x00", "1,1,1", "1 1 1",
		"10.0.0", "1.100.0", "1.1.4", "999999999.1.1", "1000000000.1.1", "18446744073709551617.1.1", "1.18446744073709551617.1",
		"a.1.1", "1.b.1", "1.1.c", "0x1.1.1", "1e0.1.1", "\u0661.1.1", "1.1.1 1.1.1",
		strings.Repeat("1.", 100000), strings.Repeat("0", 100000) + "1.1.1",
	} {
		expectRow(t, s, impl.Row{}, false)
	}
}

func TestFormatRowsOfAllRows(t *testing.T) {
	cases := []struct {
		rows []impl.Row
		want string
	}{
		{nil, ""},
		{[]impl.Row{}, ""},
		{[]impl.Row{{Key: 3, Value: 99, Width: 2}, {}}, "3.99.2 0.0.0"},
		{[]impl.Row{{Key: 2}, {Key: 1}, {Key: 2}, {Key: 2}}, "2.0.0 1.0.0 2.0.0 2.0.0"},
		{make([]impl.Row, 24), strings.Repeat("0.0.0 ", 23) + "0.0.0"},
		{repeatRow(impl.Row{Key: 9, Value: 99, Width: 3}, 24), strings.Repeat("9.99.3 ", 23) + "9.99.3"},
	}
	for _, c := range cases {
		if got := impl.FormatRows(c.rows); got != c.want {
			t.Errorf("FormatRows(%v) = %q, want %q", c.rows, got, c.want)
		}
		expectRows(t, c.want, c.rows, true)
	}
}

func TestFormatRowsRejectsInvalidRows(t *testing.T) {
	for _, count := range []int{25, 26, 100} {
		if got := impl.FormatRows(make([]impl.Row, count)); got != "" {
			t.Errorf("FormatRows of %d rows = %q, want no bytes", count, got)
		}
	}
	for i := range 24 {
		for _, row := range invalidRows() {
			rows := manyRows(24)
			rows[i] = row
			if got := impl.FormatRows(rows); got != "" {
				t.Errorf("FormatRows with %v at index %d = %q, want no bytes", row, i, got)
			}
		}
	}
}

func TestParseRowsIsTheInverse(t *testing.T) {
	for count := range 25 {
		rows := manyRows(count)
		expectRows(t, impl.FormatRows(rows), rows, true)
	}
	all := allRows()
	for start := 0; start < len(all); start += 24 {
		rows := all[start:min(start+24, len(all))]
		expectRows(t, impl.FormatRows(rows), rows, true)
	}
}

func TestParseRowsLimitOfTheNumberOfRows(t *testing.T) {
	for count := 1; count < 60; count++ {
		s := strings.Repeat("0.0.0 ", count-1) + "0.0.0"
		if count <= 24 {
			expectRows(t, s, make([]impl.Row, count), true)
		} else {
			expectRows(t, s, nil, false)
		}
	}
	expectRows(t, strings.Repeat("1.1.1 ", 24), nil, false)
	expectRows(t, strings.Repeat("1.1.1 ", 100000)+"1.1.1", nil, false)
}

func TestParseRowsOfEveryChangedByte(t *testing.T) {
	rowFormats := rowsByFormat()
	for _, valid := range []string{"0.0.0", "3.99.2 0.0.0", "1.2.3 1.2.3 9.10.1"} {
		for _, s := range stringsNear(valid) {
			rows, ok := splitIntoRows(s, rowFormats)
			expectRows(t, s, rows, ok)
		}
	}
}

func TestParseRowsOfJoinedPieces(t *testing.T) {
	rowFormats := rowsByFormat()
	pieces := []string{"0.0.0", "9.99.3", "1.1.4", "01.1.1", "", " ", "1.2", ".", "\n", "\t", ","}
	for _, a := range pieces {
		for _, b := range pieces {
			for _, c := range pieces {
				for _, s := range []string{a + b + c, a + " " + b + " " + c, a + " " + b + c} {
					rows, ok := splitIntoRows(s, rowFormats)
					expectRows(t, s, rows, ok)
				}
			}
		}
	}
}

func TestParseRowsRejectsOneBadRow(t *testing.T) {
	for i := range 24 {
		for _, bad := range []string{"", "1.1.4", "10.1.1", "1.100.1", "-1.1.1", "01.1.1", "1.1", "1.1.1.1", "1.1.1\n", "1.1.1\t1.1.1", "1.1.1|1.1.1"} {
			formats := strings.Split(impl.FormatRows(manyRows(24)), " ")
			formats[i] = bad
			expectRows(t, strings.Join(formats, " "), nil, false)
		}
	}
}

func TestRowFunctionsLeaveTheirArguments(t *testing.T) {
	backing := append(manyRows(20), invalidRows()...)
	before := slices.Clone(backing)
	for count := range len(backing) + 1 {
		rows := backing[:count]
		first := impl.FormatRows(rows)
		impl.AreValidRows(rows)
		impl.TotalCost(rows)
		if impl.FormatRows(rows) != first {
			t.Errorf("FormatRows of %d rows changes from call to call", count)
		}
		if !slices.Equal(backing, before) {
			t.Fatalf("the argument of %d rows or its capacity is modified", count)
		}
	}
}

func TestParseRowsReturnsNewMemory(t *testing.T) {
	want := manyRows(5)
	s := impl.FormatRows(want)
	first, _ := impl.ParseRows(s)
	second, _ := impl.ParseRows(s)
	for i := range first {
		first[i] = impl.Row{Key: -1}
	}
	if !slices.Equal(second, want) {
		t.Error("two results share memory")
	}
	expectRows(t, s, want, true)
}

// expectAscending compares every two of the elements, which are all different
// and in ascending order.
func expectAscending[T any](t *testing.T, what string, ascending []T, compare func(T, T) int) {
	t.Helper()
	for i, a := range ascending {
		for j, b := range ascending {
			if got, want := compare(a, b), cmp.Compare(i, j); got != want {
				t.Fatalf("%s(%v, %v) = %d, want %d", what, a, b, got, want)
			}
		}
	}
}

func expectRow(t *testing.T, s string, want impl.Row, wantOK bool) {
	t.Helper()
	if row, ok := impl.ParseRow(s); row != want || ok != wantOK {
		t.Errorf("ParseRow(%.80q) = %v, %v, want %v, %v", s, row, ok, want, wantOK)
	}
}

func expectRows(t *testing.T, s string, want []impl.Row, wantOK bool) {
	t.Helper()
	if rows, ok := impl.ParseRows(s); !slices.Equal(rows, want) || ok != wantOK {
		t.Errorf("ParseRows(%.200q) = %v, %v, want %v, %v", s, rows, ok, want, wantOK)
	}
}

// allRows returns all valid rows in ascending order.
func allRows() []impl.Row {
	var rows []impl.Row
	for key := range 10 {
		for value := range 100 {
			for width := range 4 {
				rows = append(rows, impl.Row{Key: key, Value: value, Width: width})
			}
		}
	}
	return rows
}

// manyRows returns this many valid rows with all keys and widths among them.
func manyRows(count int) []impl.Row {
	rows := make([]impl.Row, count)
	for i := range rows {
		rows[i] = impl.Row{Key: 7 * i % 10, Value: 37 * i % 100, Width: i % 4}
	}
	return rows
}

func repeatRow(row impl.Row, count int) []impl.Row {
	return slices.Repeat([]impl.Row{row}, count)
}

// validEdgeRows returns the rows with every number at one of its limits.
func validEdgeRows() []impl.Row {
	var rows []impl.Row
	for _, key := range []int{0, 9} {
		for _, value := range []int{0, 99} {
			for _, width := range []int{0, 3} {
				rows = append(rows, impl.Row{Key: key, Value: value, Width: width})
			}
		}
	}
	return rows
}

// invalidRows returns rows in which only one number is out of range, and a
// few with more.
func invalidRows() []impl.Row {
	rows := []impl.Row{
		{Key: 10, Value: 100, Width: 4},
		{Key: -1, Value: -1, Width: -1},
		{Key: math.MaxInt, Value: math.MaxInt, Width: math.MaxInt},
		{Key: math.MinInt, Value: math.MinInt, Width: math.MinInt},
	}
	for _, row := range validEdgeRows() {
		for _, n := range []int{10, 99, -1, math.MaxInt, math.MinInt} {
			rows = append(rows, impl.Row{Key: n, Value: row.Value, Width: row.Width})
		}
		for _, n := range []int{100, 256, -1, math.MaxInt, math.MinInt} {
			rows = append(rows, impl.Row{Key: row.Key, Value: n, Width: row.Width})
		}
		for _, n := range []int{4, 9, -1, math.MaxInt, math.MinInt} {
			rows = append(rows, impl.Row{Key: row.Key, Value: row.Value, Width: n})
		}
	}
	return rows
}

// rowsByFormat returns every valid row under its format. The formats come
// from a string of digits, not from FormatRow.
func rowsByFormat() map[string]impl.Row {
	const digits = "0123456789"
	formats := map[string]impl.Row{}
	for _, row := range allRows() {
		value := digits[row.Value%10 : row.Value%10+1]
		if row.Value > 9 {
			value = digits[row.Value/10:row.Value/10+1] + value
		}
		formats[digits[row.Key:row.Key+1]+"."+value+"."+digits[row.Width:row.Width+1]] = row
	}
	return formats
}

// splitIntoRows returns the rows of which s is the format, and whether there
// are any such rows, by a look at every format between two spaces.
func splitIntoRows(s string, formats map[string]impl.Row) ([]impl.Row, bool) {
	if s == "" {
		return nil, true
	}
	var rows []impl.Row
	for _, piece := range strings.Split(s, " ") {
		row, ok := formats[piece]
		if !ok {
			return nil, false
		}
		rows = append(rows, row)
	}
	return rows, true
}

// stringsNear returns s with one byte replaced, removed or inserted, in every
// place and by every byte.
func stringsNear(s string) []string {
	near := []string{s}
	for i := range len(s) + 1 {
		for _, c := range allBytes() {
			near = append(near, s[:i]+string([]byte{c})+s[i:])
			if i < len(s) {
				near = append(near, s[:i]+string([]byte{c})+s[i+1:])
			}
		}
		if i < len(s) {
			near = append(near, s[:i]+s[i+1:])
		}
	}
	return near
}
