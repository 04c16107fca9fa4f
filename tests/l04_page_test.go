package tests

import (
	"math"
	"slices"
	"strings"
	"testing"

	"loop.example/g01920/impl"
)

func TestPagesExampleOfTheDocument(t *testing.T) {
	if impl.PageCapacity != 8 {
		t.Error("the capacity is not that of the document")
	}
	rows := parsedRows(t, "1.1.3 2.2.3 3.3.0 4.4.1")
	pages := []impl.Page{{Rows: rows[:2]}, {Rows: rows[2:]}}
	expectPacked(t, rows, pages)
	expectPages(t, "[1.1.3 2.2.3][3.3.0 4.4.1]", pages, true)
	if got := impl.FormatPages(pages); got != "[1.1.3 2.2.3][3.3.0 4.4.1]" {
		t.Errorf("FormatPages = %q", got)
	}
}

func TestPageThatIsExactlyFull(t *testing.T) {
	for _, s := range []string{
		"1.1.3 2.2.3",
		"5.5.0 5.5.3 5.5.2",
		"0.0.1 0.0.1 0.0.1 0.0.1",
		"9.9.0 8.8.0 7.7.0 6.6.0 5.5.0 4.4.0 3.3.0 2.2.0",
	} {
		rows := parsedRows(t, s)
		full := impl.Page{Rows: rows}
		if costOf(rows) != impl.PageCapacity || !impl.IsValidPage(full) {
			t.Errorf("the full page %q is rejected", s)
		}
		expectPacked(t, rows, []impl.Page{full})
		expectPages(t, "["+s+"]", []impl.Page{full}, true)
		expectPages(t, "["+s+"]["+s+"]", []impl.Page{full, full}, true)
		expectPages(t, "["+s+" 0.0.0]", nil, false)
		if got := impl.FormatPages([]impl.Page{full}); got != "["+s+"]" {
			t.Errorf("FormatPages of the full page %q = %q", s, got)
		}
		last := impl.Page{Rows: rows[len(rows)-1:]}
		before := impl.Page{Rows: rows[:len(rows)-1]}
		if impl.WouldOverflow(before, last.Rows[0]) || !impl.WouldOverflow(full, impl.Row{}) {
			t.Errorf("WouldOverflow beside the full page %q", s)
		}
		expectPacked(t, append(slices.Clone(rows), last.Rows...), []impl.Page{full, last})
		expectPacked(t, append(slices.Clone(rows), rows...), []impl.Page{full, full})
		over := impl.Page{Rows: append(slices.Clone(rows), impl.Row{})}
		if impl.IsValidPage(over) || impl.FormatPages([]impl.Page{over}) != "" {
			t.Errorf("the page %q and one row more is accepted", s)
		}
	}
}

func TestPackPagesDoesNotGoBackToAnEarlierPage(t *testing.T) {
	rows := parsedRows(t, "1.1.2 2.2.3 3.3.3 4.4.0 5.5.0")
	expectPacked(t, rows, []impl.Page{{Rows: rows[:2]}, {Rows: rows[2:]}})
	rows = parsedRows(t, "1.1.0 2.2.3 3.3.3 4.4.2 5.5.3 6.6.0")
	expectPacked(t, rows, []impl.Page{{Rows: rows[:2]}, {Rows: rows[2:4]}, {Rows: rows[4:]}})
}

func TestPackPagesOfEveryShortListOfWidths(t *testing.T) {
	widths := placesUpTo(7, impl.MaxWidth+1)
	for _, list := range widths {
		expectGreedyPages(t, rowsOfWidths(list))
	}
	narrow := placesUpTo(11, 2)
	for _, list := range narrow {
		expectGreedyPages(t, rowsOfWidths(list))
	}
}

func TestPackPagesOfEveryNumberOfRows(t *testing.T) {
	for count := range 25 {
		expectGreedyPages(t, manyRows(count))
		for width := range 4 {
			rows := repeatRow(impl.Row{Key: 4, Value: 50, Width: width}, count)
			expectGreedyPages(t, rows)
			perPage := 8 / (1 + width)
			if got, want := len(impl.PackPages(rows)), (count+perPage-1)/perPage; got != want {
				t.Errorf("%d rows of width %d are packed into %d pages, want %d", count, width, got, want)
			}
		}
	}
	all := allRows()
	for start := 0; start < len(all); start += 24 {
		expectGreedyPages(t, all[start:min(start+24, len(all))])
	}
}

func TestPackPagesOfNoRows(t *testing.T) {
	for _, none := range [][]impl.Row{nil, {}, manyRows(3)[:0]} {
		expectPacked(t, none, nil)
	}
}

func TestPackPagesOfRowsThatAreNotValid(t *testing.T) {
	expectPacked(t, invalidRows(), nil)
	for count := 25; count < 60; count++ {
		expectPacked(t, make([]impl.Row, count), nil)
	}
	for i := range 24 {
		for _, row := range invalidRows() {
			rows := manyRows(24)
			rows[i] = row
			expectPacked(t, rows, nil)
			expectPacked(t, rows[:i+1], nil)
		}
	}
}

func TestIsValidPageOfEveryShortListOfWidths(t *testing.T) {
	for _, list := range placesUpTo(7, impl.MaxWidth+1) {
		expectValidByCost(t, rowsOfWidths(list))
	}
	for count := range 40 {
		expectValidByCost(t, repeatRow(impl.Row{Key: 9, Value: 99}, count))
	}
	for _, row := range allRows() {
		expectValidByCost(t, []impl.Row{row})
	}
}

func TestPageThatIsNotValid(t *testing.T) {
	good := impl.Page{Rows: parsedRows(t, "1.1.1 2.2.2")}
	var bad []impl.Page
	for _, row := range invalidRows() {
		bad = append(bad, impl.Page{Rows: []impl.Row{row}})
		bad = append(bad, impl.Page{Rows: []impl.Row{row, {}}})
		bad = append(bad, impl.Page{Rows: []impl.Row{{}, row}})
		bad = append(bad, impl.Page{Rows: []impl.Row{{Width: 3}, row, {Width: 3}}})
	}
	bad = append(bad, impl.Page{}, impl.Page{Rows: []impl.Row{}}, impl.Page{Rows: good.Rows[:0]})
	bad = append(bad, impl.Page{Rows: invalidRows()}, impl.Page{Rows: make([]impl.Row, 9)}, impl.Page{Rows: make([]impl.Row, 25)})
	bad = append(bad, impl.Page{Rows: allRows()})
	for _, page := range bad {
		if impl.IsValidPage(page) {
			t.Errorf("IsValidPage accepts %v", page)
		}
		for _, pages := range [][]impl.Page{{page}, {page, good}, {good, page}, {good, page, good}} {
			if got := impl.FormatPages(pages); got != "" {
				t.Errorf("FormatPages(%v) = %q, want no bytes", pages, got)
			}
		}
	}
}

func TestUnpackPagesReturnsTheRowsOfAnyPages(t *testing.T) {
	row := impl.Row{Key: 1, Value: 2, Width: 3}
	cases := []struct {
		pages []impl.Page
		want  []impl.Row
	}{
		{nil, nil},
		{[]impl.Page{}, nil},
		{[]impl.Page{{}}, nil},
		{[]impl.Page{{}, {Rows: []impl.Row{}}, {}}, nil},
		{[]impl.Page{{Rows: []impl.Row{row}}}, []impl.Row{row}},
		{[]impl.Page{{}, {Rows: []impl.Row{row, {}}}, {}, {Rows: []impl.Row{{}, row}}}, []impl.Row{row, {}, {}, row}},
		{[]impl.Page{{Rows: invalidRows()}, {Rows: []impl.Row{row}}}, append(invalidRows(), row)},
		{[]impl.Page{{Rows: allRows()}, {Rows: allRows()}}, append(allRows(), allRows()...)},
	}
	for i, c := range cases {
		if got := impl.UnpackPages(c.pages); !slices.Equal(got, c.want) {
			t.Errorf("case %d: UnpackPages returns %d rows, want %d", i, len(got), len(c.want))
		}
	}
	var pages []impl.Page
	for _, row := range allRows() {
		pages = append(pages, impl.Page{Rows: []impl.Row{row}})
	}
	if !slices.Equal(impl.UnpackPages(pages), allRows()) {
		t.Error("UnpackPages of 4000 pages of one row")
	}
}

func TestWouldOverflowAddsTheCosts(t *testing.T) {
	for _, list := range placesUpTo(5, impl.MaxWidth+1) {
		page := impl.Page{Rows: rowsOfWidths(list)}
		for width := range 4 {
			row := impl.Row{Key: 8, Value: 70, Width: width}
			want := costOf(page.Rows)+1+width > 8
			if got := impl.WouldOverflow(page, row); got != want {
				t.Fatalf("WouldOverflow(%v, %v) = %v", page, row, got)
			}
		}
	}
}

func TestWouldOverflowOfRowsThatAreNotValid(t *testing.T) {
	full := impl.Page{Rows: parsedRows(t, "1.1.3 2.2.3")}
	over := impl.Page{Rows: append(slices.Clone(full.Rows), impl.Row{})}
	costless := impl.Page{Rows: slices.Repeat(invalidRows(), 20)}
	for _, row := range invalidRows() {
		if impl.WouldOverflow(impl.Page{}, row) || impl.WouldOverflow(full, row) || impl.WouldOverflow(costless, row) {
			t.Errorf("%v costs something", row)
		}
		if !impl.WouldOverflow(over, row) {
			t.Errorf("the page that is too full does not overflow beside %v", row)
		}
	}
	for _, row := range allRows() {
		if impl.WouldOverflow(impl.Page{}, row) || impl.WouldOverflow(costless, row) || !impl.WouldOverflow(full, row) || !impl.WouldOverflow(over, row) {
			t.Errorf("WouldOverflow of %v", row)
		}
	}
	if !impl.WouldOverflow(impl.Page{Rows: allRows()}, impl.Row{}) {
		t.Error("4000 rows and one more do not overflow")
	}
}

func TestPagesOfNoRowsAndNoPages(t *testing.T) {
	if impl.FormatPages(nil) != "" || impl.FormatPages([]impl.Page{}) != "" {
		t.Error("FormatPages of no pages")
	}
	expectPages(t, "", nil, true)
	expectPages(t, "[]", nil, false)
	expectPages(t, "[][]", nil, false)
}

func TestParsePagesIsTheInverse(t *testing.T) {
	formats := rowsByFormat()
	for _, list := range placesUpTo(6, impl.MaxWidth+1) {
		expectFormatAndBack(t, impl.PackPages(rowsOfWidths(list)), formats)
	}
	for count := range 25 {
		expectFormatAndBack(t, impl.PackPages(manyRows(count)), formats)
	}
	var pages []impl.Page
	for _, row := range allRows() {
		pages = append(pages, impl.Page{Rows: []impl.Row{row, {}}})
	}
	// More pages than a disk has, and more rows than an input has.
	expectFormatAndBack(t, pages, formats)
}

func TestParsePagesOfEveryShortString(t *testing.T) {
	formats := rowsByFormat()
	expectAllAsSplit(t, stringsUpTo(7, []byte("[]01. ")), formats)
	expectAllAsSplit(t, stringsUpTo(2, allBytes()), formats)
}

func TestParsePagesOfEveryChangedByte(t *testing.T) {
	formats := rowsByFormat()
	for _, valid := range []string{"[0.0.0]", "[3.99.2 0.0.0]", "[1.1.1][9.10.3]", "[1.1.3 2.2.3][3.3.0 4.4.1]"} {
		expectAllAsSplit(t, stringsNear(valid), formats)
	}
}

func TestParsePagesOfJoinedPieces(t *testing.T) {
	formats := rowsByFormat()
	pieces := []string{"[", "]", " ", "1.1.1", "9.99.3", "[2.2.3]", "[1.1.3 2.2.3]"}
	var strs []string
	for _, places := range placesUpTo(5, len(pieces)) {
		s := ""
		for _, place := range places {
			s += pieces[place]
		}
		strs = append(strs, s)
	}
	expectAllAsSplit(t, strs, formats)
}

func TestParsePagesRejectsOtherFormats(t *testing.T) {
	for _, s := range []string{
		"[", "]", "[]", "][", "[[]]", " ", "1.1.1", "[1.1.1", "1.1.1]", "]1.1.1[", "[[1.1.1]", "[1.1.1]]", "[[1.1.1]]",
		" [1.1.1]", "[1.1.1] ", "[ 1.1.1]", "[1.1.1 ]", "[1.1.1  2.2.2]", "[1.1.1] [2.2.2]", "[1.1.1],[2.2.2]", "[1.1.1]\n",
		"[1.1.1][]", "[][1.1.1]", "[1.1.1][][2.2.2]", "[1.1.1][2.2.2", "[1.1.1]2.2.2]", "[1.1.1][[2.2.2]]", "[1.1.1[2.2.2]",
		"[1.1.1|2.2.2]", "[1.1.1,2.2.2]", "(1.1.1)", "{1.1.1}", "[01.1.1]", "[1.1.4]", "[10.1.1]", "[1.100.1]", "[-1.1.1]", "[1.1]", "[1.1.1.1]",
		"[1.1.3 2.2.3 3.3.0]", "[1.1.1][1.1.3 2.2.3 3.3.0]", "[1.1.3 2.2.3 3.3.0][1.1.1]", "[0.0.0 0.0.0 0.0.0 0.0.0 0.0.0 0.0.0 0.0.0 0.0.0 0.0.0]",
		"[" + strings.Repeat("0.0.0 ", 23) + "0.0.0]", "[" + strings.Repeat("0.0.0 ", 24) + "0.0.0]",
		strings.Repeat("[", 100000), strings.Repeat("]", 100000), strings.Repeat("[]", 100000), strings.Repeat("[1.1.1", 100000),
		strings.Repeat("[1.1.1]", 100000) + "[", "[" + strings.Repeat("0.0.0 ", 100000) + "0.0.0]",
	} {
		expectPages(t, s, nil, false)
	}
}

func TestPageFunctionsLeaveTheirArguments(t *testing.T) {
	backing := append(append(manyRows(20), invalidRows()...), manyRows(20)...)
	before := slices.Clone(backing)
	pageBacking := append(impl.PackPages(manyRows(20)), impl.Page{Rows: backing[3:5]}, impl.Page{}, impl.Page{Rows: backing[18:23]})
	pagesBefore := clonePages(pageBacking)
	for count := range len(backing) + 1 {
		rows := backing[:count]
		pages := pageBacking[:count%(len(pageBacking)+1)]
		for range 2 {
			impl.PackPages(rows)
			impl.IsValidPage(impl.Page{Rows: rows})
			impl.WouldOverflow(impl.Page{Rows: rows}, impl.Row{Key: 1})
			impl.UnpackPages(pages)
			impl.UnpackPages([]impl.Page{{Rows: rows}, {Rows: rows}})
			impl.FormatPages(pages)
			impl.FormatPages([]impl.Page{{Rows: rows}})
		}
		if !slices.Equal(backing, before) || !equalPages(pageBacking, pagesBefore) {
			t.Fatalf("an argument of %d rows or its capacity is modified", count)
		}
	}
}

func TestPackPagesReturnsNewMemory(t *testing.T) {
	backing := manyRows(24)
	before := slices.Clone(backing)
	for count := range len(backing) + 1 {
		pages := impl.PackPages(backing[:count])
		expectPagesApart(t, pages)
		if !slices.Equal(backing, before) {
			t.Fatalf("PackPages of %d rows shares memory with its argument", count)
		}
	}
}

func TestUnpackPagesReturnsNewMemory(t *testing.T) {
	// One page with unused capacity, which could be taken for the result.
	backing := manyRows(24)
	before := slices.Clone(backing)
	for _, pages := range [][]impl.Page{
		{{Rows: backing[:5]}},
		{{Rows: backing[:5]}, {Rows: backing[5:7]}},
		{{}, {Rows: backing[:5]}, {}},
		{{Rows: backing}},
	} {
		want := slices.Concat(rowsOfPages(pages)...)
		first, second := impl.UnpackPages(pages), impl.UnpackPages(pages)
		overwrite(first)
		if !slices.Equal(backing, before) {
			t.Fatal("UnpackPages shares memory with its argument")
		}
		if !slices.Equal(second, want) {
			t.Fatal("two results of UnpackPages share memory")
		}
	}
}

func TestParsePagesReturnsNewMemory(t *testing.T) {
	const s = "[1.1.3 2.2.3][3.3.0 4.4.1][1.1.3 2.2.3][5.5.0]"
	first, _ := impl.ParsePages(s)
	second, _ := impl.ParsePages(s)
	expectPagesApart(t, first)
	clear(first)
	if impl.FormatPages(second) != s {
		t.Error("two results of ParsePages share memory")
	}
	expectPages(t, s, second, true)
}

// expectPagesApart overwrites the pages one after the other, with an append
// beyond each, and looks whether another page changes with it.
func expectPagesApart(t *testing.T, pages []impl.Page) {
	t.Helper()
	before := clonePages(pages)
	for i := range pages {
		rows := pages[i].Rows
		_ = append(rows, impl.Row{Key: 77}, impl.Row{Key: 77})
		overwrite(rows)
		pages[i].Rows = slices.Clone(before[i].Rows)
		if !equalPages(pages, before) {
			t.Fatalf("page %d of %d shares memory with another page", i, len(pages))
		}
	}
}

// overwrite changes the rows and their unused capacity.
func overwrite(rows []impl.Row) {
	rows = rows[:cap(rows)]
	for i := range rows {
		rows[i] = impl.Row{Key: 77, Value: math.MaxInt}
	}
}

func expectPacked(t *testing.T, rows []impl.Row, want []impl.Page) {
	t.Helper()
	if got := impl.PackPages(rows); !equalPages(got, want) {
		t.Fatalf("PackPages(%v) = %v, want %v", rows, got, want)
	}
}

func expectPages(t *testing.T, s string, want []impl.Page, wantOK bool) {
	t.Helper()
	if pages, ok := impl.ParsePages(s); !equalPages(pages, want) || ok != wantOK {
		t.Fatalf("ParsePages(%.200q) = %v, %v, want %v, %v", s, pages, ok, want, wantOK)
	}
}

// expectGreedyPages checks what determines the pages of valid rows: they hold
// the rows in order, none holds too much, and none has room for the first row
// of the next one.
func expectGreedyPages(t *testing.T, rows []impl.Row) {
	t.Helper()
	pages := impl.PackPages(rows)
	if !slices.Equal(slices.Concat(rowsOfPages(pages)...), rows) || !slices.Equal(impl.UnpackPages(pages), rows) {
		t.Fatalf("the rows %v are packed into %v", rows, pages)
	}
	for i, page := range pages {
		if len(page.Rows) == 0 || costOf(page.Rows) > 8 || !impl.IsValidPage(page) {
			t.Fatalf("page %d of %v is not valid", i, pages)
		}
		if i > 0 && costOf(pages[i-1].Rows)+costOf(page.Rows[:1]) <= 8 {
			t.Fatalf("page %d of %v has room for the row after it", i-1, pages)
		}
	}
}

func expectValidByCost(t *testing.T, rows []impl.Row) {
	t.Helper()
	cost := costOf(rows)
	if got := impl.IsValidPage(impl.Page{Rows: rows}); got != (cost >= 1 && cost <= 8) {
		t.Fatalf("IsValidPage of the rows %v of cost %d is %v", rows, cost, got)
	}
}

func expectFormatAndBack(t *testing.T, pages []impl.Page, formats map[string]impl.Row) {
	t.Helper()
	s := impl.FormatPages(pages)
	if split, ok := splitIntoPages(s, formats); !ok || !equalPages(split, pages) {
		t.Fatalf("FormatPages(%v) = %.200q", pages, s)
	}
	expectPages(t, s, pages, true)
}

func expectAllAsSplit(t *testing.T, strs []string, formats map[string]impl.Row) {
	t.Helper()
	for _, s := range strs {
		pages, ok := splitIntoPages(s, formats)
		expectPages(t, s, pages, ok)
	}
}

// splitIntoPages returns the pages of which s is the format, and whether
// there are any such pages, by a look at every format between two pages.
func splitIntoPages(s string, formats map[string]impl.Row) ([]impl.Page, bool) {
	if s == "" {
		return nil, true
	}
	if len(s) < 2 || s[0] != '[' || s[len(s)-1] != ']' {
		return nil, false
	}
	var pages []impl.Page
	for _, piece := range strings.Split(s[1:len(s)-1], "][") {
		rows, ok := splitIntoRows(piece, formats)
		if !ok || len(rows) == 0 || costOf(rows) > 8 {
			return nil, false
		}
		pages = append(pages, impl.Page{Rows: rows})
	}
	return pages, true
}

// rowsOfWidths returns different valid rows of these widths.
func rowsOfWidths(widths []int) []impl.Row {
	rows := make([]impl.Row, len(widths))
	for i, width := range widths {
		rows[i] = impl.Row{Key: i % 10, Value: 90 - i, Width: width}
	}
	return rows
}

// costOf returns the cost of valid rows.
func costOf(rows []impl.Row) int {
	cost := len(rows)
	for _, row := range rows {
		cost += row.Width
	}
	return cost
}

func rowsOfPages(pages []impl.Page) [][]impl.Row {
	rows := make([][]impl.Row, len(pages))
	for i, page := range pages {
		rows[i] = page.Rows
	}
	return rows
}

func clonePages(pages []impl.Page) []impl.Page {
	clones := make([]impl.Page, len(pages))
	for i, page := range pages {
		clones[i].Rows = slices.Clone(page.Rows)
	}
	return clones
}

// equalPages takes a nil slice and an empty slice for the same.
func equalPages(a []impl.Page, b []impl.Page) bool {
	return slices.EqualFunc(a, b, func(a, b impl.Page) bool {
		return slices.Equal(a.Rows, b.Rows)
	})
}
