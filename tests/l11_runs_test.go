package tests

import (
	"cmp"
	"math"
	"slices"
	"strings"
	"testing"

	"loop.example/g01920/impl"
)

func TestRunsExampleOfTheDocument(t *testing.T) {
	expectBuilt(t, "5.0.3 3.0.3 4.0.3 1.0.3 6.0.3", 8, "3.0.3 4.0.3 5.0.3 6.0.3|1.0.3")
}

func TestBuildRunsOfNoRows(t *testing.T) {
	for memory := 8; memory <= 60; memory++ {
		for _, none := range [][]impl.Row{nil, {}, manyRows(3)[:0]} {
			expectRuns(t, none, memory, nil)
		}
	}
}

func TestBuildRunsOfOneRow(t *testing.T) {
	for _, row := range allRows() {
		for _, memory := range []int{8, 9, 60} {
			one := []impl.Row{row}
			expectRuns(t, one, memory, []impl.Run{{Rows: one}})
		}
	}
}

func TestBuildRunsOfMemoryOutOfRange(t *testing.T) {
	inputs := [][]impl.Row{nil, {{}}, manyRows(1), manyRows(24), make([]impl.Row, 24), invalidRows(), manyRows(25)}
	for _, rows := range inputs {
		for _, memory := range grantsOutOfRange() {
			expectNoRuns(t, rows, memory)
		}
	}
	// The least and the largest memory that are in range.
	rows := "9.0.3 8.0.3 7.0.3 6.0.3 5.0.3 4.0.3 3.0.3 2.0.3 1.0.3 0.0.3 9.1.3 8.1.3 7.1.3 6.1.3 5.1.3 0.1.3"
	expectBuilt(t, rows, 8, "8.0.3 9.0.3|6.0.3 7.0.3|4.0.3 5.0.3|2.0.3 3.0.3|0.0.3 1.0.3 8.1.3 9.1.3|6.1.3 7.1.3|0.1.3 5.1.3")
	expectBuilt(t, rows, 60, "0.0.3 0.1.3 1.0.3 2.0.3 3.0.3 4.0.3 5.0.3 5.1.3 6.0.3 6.1.3 7.0.3 7.1.3 8.0.3 8.1.3 9.0.3 9.1.3")
	expectBuilt(t, "9.9.3 "+strings.Repeat("9.9.2 ", 20)+"0.0.0", 60, strings.Repeat("9.9.2 ", 20)+"9.9.3|0.0.0")
}

func TestBuildRunsOfRowsThatAreNotValid(t *testing.T) {
	for _, memory := range []int{8, 20, 60} {
		expectNoRuns(t, invalidRows(), memory)
		for count := 25; count < 60; count++ {
			expectNoRuns(t, make([]impl.Row, count), memory)
			expectNoRuns(t, manyRows(count), memory)
		}
		for i := range 24 {
			for _, row := range invalidRows() {
				rows := manyRows(24)
				rows[i] = row
				expectNoRuns(t, rows, memory)
				expectNoRuns(t, rows[:i+1], memory)
				expectNoRuns(t, rows[i:], memory)
			}
		}
	}
}

func TestMemoryThatHoldsTheWholeInput(t *testing.T) {
	expectBuilt(t, "4.0.3 3.0.3 2.0.2 1.0.0", 12, "1.0.0 2.0.2 3.0.3 4.0.3")
	expectBuilt(t, "4.0.3 3.0.3 2.0.2 1.0.0", 11, "2.0.2 3.0.3 4.0.3|1.0.0")
	expectBuilt(t, "4.0.3 3.0.3 2.0.2 1.0.0", 8, "3.0.3 4.0.3|1.0.0 2.0.2")
	expectBuilt(t, "7.0.3 3.0.3", 8, "3.0.3 7.0.3")
	expectBuilt(t, "7.0.3 3.0.3 2.0.0", 9, "2.0.0 3.0.3 7.0.3")
	expectBuilt(t, "7.0.3 3.0.3 2.0.0", 8, "3.0.3 7.0.3|2.0.0")
	// One less may still be enough, if the last row is not less than the first
	// that has to be written.
	expectBuilt(t, "7.0.3 3.0.3 3.0.3", 11, "3.0.3 3.0.3 7.0.3")
	expectBuilt(t, "7.0.3 3.0.3 9.9.3", 11, "3.0.3 7.0.3 9.9.3")
	expectBuilt(t, "7.0.3 3.0.3 2.9.3", 11, "3.0.3 7.0.3|2.9.3")
	for memory := 8; memory <= 60; memory++ {
		for width := range 4 {
			last := impl.Row{Value: 1, Width: width}
			exact := append(descendingRowsOfCost(memory-1-width), last)
			expectRuns(t, exact, memory, []impl.Run{{Rows: reversed(exact)}})
			// One row after the other is taken from memory, but the last one
			// comes too late.
			missed := descendingRowsOfCost(memory - width)
			expectRuns(t, append(missed, last), memory, []impl.Run{{Rows: reversed(missed)}, {Rows: []impl.Row{last}}})
		}
	}
}

func TestMemoryThatHoldsMoreThanTheInput(t *testing.T) {
	for memory := 8; memory <= 60; memory++ {
		for count := 1; count <= 24; count++ {
			rows := manyRows(count)
			if costOf(rows) <= memory {
				expectRuns(t, rows, memory, []impl.Run{{Rows: sortedRows(rows)}})
			}
		}
	}
}

func TestRunsOfAscendingRows(t *testing.T) {
	for memory := 8; memory <= 60; memory++ {
		for count := 1; count <= 24; count++ {
			rows := sortedRows(manyRows(count))
			expectRuns(t, rows, memory, []impl.Run{{Rows: rows}})
		}
	}
	all := allRows()
	for start := 0; start+24 <= len(all); start += 24 {
		rows := all[start : start+24]
		expectRuns(t, rows, 8, []impl.Run{{Rows: rows}})
	}
}

// Of descending rows, only those that are in memory together form a run.
func TestRunsOfDescendingRows(t *testing.T) {
	for memory := 8; memory <= 60; memory++ {
		for width := range 4 {
			var rows []impl.Row
			for i := range 24 {
				rows = append(rows, impl.Row{Key: (23 - i) / 3, Value: 99 - i, Width: width})
			}
			var want []impl.Run
			for chunk := range slices.Chunk(rows, memory/(1+width)) {
				want = append(want, impl.Run{Rows: reversed(chunk)})
			}
			expectRuns(t, rows, memory, want)
		}
	}
}

func TestRunsOfEqualRows(t *testing.T) {
	for _, row := range validEdgeRows() {
		for count := 1; count <= 24; count++ {
			for _, memory := range []int{8, 9, 31, 60} {
				rows := repeatRow(row, count)
				expectRuns(t, rows, memory, []impl.Run{{Rows: rows}})
			}
		}
	}
}

func TestRunsOfRowsWithEqualKeys(t *testing.T) {
	for _, c := range []struct{ rows, want string }{
		{"4.9.3 4.7.3 4.8.3", "4.7.3 4.8.3 4.9.3"},
		{"4.9.3 4.7.3 4.6.3", "4.7.3 4.9.3|4.6.3"},
		{"4.9.3 4.7.3 4.7.3", "4.7.3 4.7.3 4.9.3"},
		{"4.10.3 4.9.3 4.11.3 4.8.3", "4.9.3 4.10.3 4.11.3|4.8.3"},
		{"4.7.3 4.7.2 4.7.3", "4.7.2 4.7.3 4.7.3"},
		{"4.7.3 4.7.2 4.7.2", "4.7.2 4.7.2 4.7.3"},
		{"4.7.3 4.7.2 4.7.1 4.7.0", "4.7.2 4.7.3|4.7.0 4.7.1"},
		{"4.7.0 4.7.1 4.7.2 4.7.3", "4.7.0 4.7.1 4.7.2 4.7.3"},
		{"4.7.1 4.8.0 4.6.3 4.7.0 4.6.3", "4.6.3 4.6.3 4.7.0 4.7.1 4.8.0"},
		{"4.7.1 4.8.0 4.6.3 4.7.0 4.5.3", "4.6.3 4.7.0 4.7.1 4.8.0|4.5.3"},
	} {
		expectBuilt(t, c.rows, 8, c.want)
	}
}

func TestRowBesideTheLastRowOfTheRun(t *testing.T) {
	for _, c := range []struct{ row, want string }{
		// Equal to the last row, which is 5.5.2.
		{"5.5.2", "5.5.2 5.5.2 8.0.3"},
		// Less in one number.
		{"5.5.1", "5.5.2 8.0.3|5.5.1"},
		{"5.4.2", "5.5.2 8.0.3|5.4.2"},
		{"4.5.2", "5.5.2 8.0.3|4.5.2"},
		// Less, but with greater numbers where they do not matter.
		{"5.4.3", "5.5.2 8.0.3|5.4.3"},
		{"4.99.3", "5.5.2 8.0.3|4.99.3"},
		// Greater in one number.
		{"5.5.3", "5.5.2 5.5.3 8.0.3"},
		{"5.6.2", "5.5.2 5.6.2 8.0.3"},
		{"6.5.2", "5.5.2 6.5.2 8.0.3"},
		// Greater, but with smaller numbers where they do not matter.
		{"5.6.1", "5.5.2 5.6.1 8.0.3"},
		{"6.0.1", "5.5.2 6.0.1 8.0.3"},
		// Greater than the row in memory, too.
		{"9.0.3", "5.5.2 8.0.3 9.0.3"},
	} {
		expectBuilt(t, "8.0.3 5.5.2 "+c.row, 8, c.want)
	}
	// The row is compared with the last row of the run, not with its first.
	expectBuilt(t, "1.0.3 5.0.3 6.0.3 3.0.3", 8, "1.0.3 5.0.3 6.0.3|3.0.3")
	// A run that has just begun takes every row.
	expectBuilt(t, "5.0.3 6.0.3 2.0.3 3.0.0 1.0.2 0.0.0", 8, "5.0.3 6.0.3|1.0.2 2.0.3 3.0.0|0.0.0")
}

func TestDeferredRowsTakeMemory(t *testing.T) {
	// 9.0.3 belongs to the first run, but there is no room left for it.
	expectBuilt(t, "5.0.3 6.0.3 1.0.3 2.0.3 9.0.3 7.0.3", 8, "5.0.3 6.0.3|1.0.3 2.0.3 7.0.3 9.0.3")
	expectBuilt(t, "5.0.3 6.0.3 1.0.3 2.0.3 9.0.3 7.0.3", 11, "5.0.3 6.0.3|1.0.3 2.0.3 7.0.3 9.0.3")
	expectBuilt(t, "5.0.3 6.0.3 1.0.3 2.0.3 9.0.3 7.0.3", 12, "1.0.3 2.0.3 5.0.3 6.0.3 7.0.3 9.0.3")
	// A narrow row still fits, a wide one does not.
	expectBuilt(t, "5.0.3 6.0.3 1.0.3 2.0.2 9.0.0 8.0.0", 8, "5.0.3 6.0.3 9.0.0|1.0.3 2.0.2 8.0.0")
	expectBuilt(t, "5.0.3 6.0.3 1.0.3 2.0.2 9.0.1 8.0.0", 8, "5.0.3 6.0.3|1.0.3 2.0.2 8.0.0 9.0.1")
	// The deferred rows stay where they are until the run ends.
	expectBuilt(t, "5.0.3 6.0.3 1.0.0 7.0.2 8.0.2 2.0.0 9.0.1", 8, "5.0.3 6.0.3 7.0.2 8.0.2 9.0.1|1.0.0 2.0.0")
}

func TestSeveralRowsAreReadBeforeTheNextIsWritten(t *testing.T) {
	expectBuilt(t, "5.0.3 6.0.3 7.0.0 8.0.0 9.0.0 1.0.0 2.0.0", 8, "5.0.3 6.0.3 7.0.0 8.0.0 9.0.0|1.0.0 2.0.0")
	// 5.5.0 is read before 6.0.3 would be written.
	expectBuilt(t, "5.0.3 6.0.3 9.0.1 5.5.0 5.9.0", 8, "5.0.3 5.5.0 5.9.0 6.0.3 9.0.1")
	// Both of the rows that replace 1.0.3 are less than it.
	expectBuilt(t, "1.0.3 2.0.3 0.9.1 0.8.1 3.0.3", 8, "1.0.3 2.0.3 3.0.3|0.8.1 0.9.1")
	// All of 1.0.0 to 4.0.0 have to make room for 3.5.3, which then comes too
	// late.
	expectBuilt(t, "1.0.0 2.0.0 3.0.0 4.0.0 9.0.3 3.5.3 9.9.0", 8, "1.0.0 2.0.0 3.0.0 4.0.0 9.0.3 9.9.0|3.5.3")
}

func TestMemoryIsMetOrMissedByOneAfterARowIsWritten(t *testing.T) {
	for memory := 8; memory <= 60; memory++ {
		for written := range 4 {
			for width := range 4 {
				// The rows fill the memory, and the least of them makes room for
				// one that is less than all the others.
				first := impl.Row{Key: 1, Width: written}
				next := impl.Row{Key: 1, Value: 1, Width: width}
				others := descendingRowsOfCost(memory - 1 - written)
				want := []impl.Run{{Rows: append([]impl.Row{first, next}, reversed(others)...)}}
				if width > written {
					// The room is too small, so it comes too late.
					want = []impl.Run{{Rows: append([]impl.Row{first}, reversed(others)...)}, {Rows: []impl.Row{next}}}
				}
				expectRuns(t, append(others, first, next), memory, want)
			}
		}
	}
}

func TestRunsOfEveryShortList(t *testing.T) {
	for _, c := range []struct {
		rows     string
		length   int
		memories []int
	}{
		{"1.0.0 1.0.3 2.0.1 3.5.3 3.4.2 9.0.3", 5, []int{8, 9, 10, 11, 12}},
		{"1.1.3 2.2.3 3.3.3", 8, []int{8, 11, 12, 16}},
		{"7.1.2 7.2.2 8.0.2 8.0.1", 6, []int{8, 9, 10}},
		{"5.0.3 4.0.3 3.0.0 6.0.0", 7, []int{8, 9}},
	} {
		choices := parsedRows(t, c.rows)
		for _, places := range placesUpTo(c.length, len(choices)) {
			for _, memory := range c.memories {
				expectSimulatedRuns(t, elementsAt(choices, places), memory)
			}
		}
	}
}

func TestRunsOfEveryOrderOfRows(t *testing.T) {
	rows := parsedRows(t, "0.0.3 1.0.1 2.0.3 3.0.0 4.0.3 5.0.2 6.0.3")
	for _, order := range ordersOf(len(rows)) {
		for _, memory := range []int{8, 10, 13} {
			expectSimulatedRuns(t, elementsAt(rows, order), memory)
		}
	}
}

func TestRunsOfLongInputs(t *testing.T) {
	for memory := 8; memory <= 60; memory++ {
		for _, rows := range longInputs(memory) {
			expectSimulatedRuns(t, rows, memory)
		}
	}
}

func TestIndexOfMinOfNoRows(t *testing.T) {
	for _, none := range [][]impl.Row{nil, {}, manyRows(3)[:0]} {
		expectIndexOfMin(t, none, -1)
	}
}

func TestIndexOfMinOfOneRow(t *testing.T) {
	for _, row := range slices.Concat(allRows(), invalidRows()) {
		expectIndexOfMin(t, []impl.Row{row}, 0)
	}
}

// The rows differ in one number each, some are not valid, and most of the
// lists have a minimum that occurs twice.
func TestIndexOfMinOfEveryShortList(t *testing.T) {
	ascending := ascendingRows()
	for _, places := range placesUpTo(5, len(ascending))[1:] {
		expectIndexOfMin(t, elementsAt(ascending, places), slices.Index(places, slices.Min(places)))
	}
}

func TestIndexOfMinThatOccursTwice(t *testing.T) {
	for _, c := range []struct {
		rows string
		want int
	}{
		{"1.1.1 1.1.1", 0},
		{"2.0.0 1.1.1 1.1.1", 1},
		{"1.1.1 2.0.0 1.1.1", 0},
		{"2.0.0 1.1.1 3.0.0 1.1.1 2.0.0", 1},
		{"2.0.0 2.0.0 3.0.0 1.1.1 1.1.1", 3},
		{"1.1.2 1.2.1 2.1.1 1.1.1 1.1.1 1.1.1", 3},
	} {
		expectIndexOfMin(t, parsedRows(t, c.rows), c.want)
	}
	for first := range 30 {
		for second := first + 1; second < 30; second++ {
			// More rows than an input has.
			rows := repeatRow(impl.Row{Key: 3, Value: 3, Width: 3}, 30)
			rows[first].Width, rows[second].Width = 2, 2
			expectIndexOfMin(t, rows, first)
			rows[second].Width = 1
			expectIndexOfMin(t, rows, second)
		}
	}
}

func TestNoRunsAreValid(t *testing.T) {
	for _, none := range [][]impl.Run{nil, {}, parsedRuns(t, "1.1.1")[:0]} {
		expectValidRuns(t, none, true)
	}
}

func TestRunsThatAreValid(t *testing.T) {
	for _, s := range []string{
		"0.0.0", "9.99.3", "1.1.1|1.1.1", "1.1.1 1.1.1", "9.9.3|8.8.2|7.7.1|8.8.2", "1.1.1 1.1.2 1.2.0 2.0.0|0.0.0 9.99.3",
		// The runs cost more than a page and than any memory.
		strings.Repeat("4.4.3 ", 24),
		strings.Repeat("0.0.0|", 999) + "0.0.0",
	} {
		expectValidRuns(t, parsedRuns(t, s), true)
	}
	for count := 1; count <= 24; count++ {
		run := impl.Run{Rows: sortedRows(manyRows(count))}
		expectValidRuns(t, []impl.Run{run}, true)
		expectValidRuns(t, []impl.Run{run, run, {Rows: manyRows(1)}}, true)
	}
}

func TestRunsThatAreNotValid(t *testing.T) {
	good := parsedRuns(t, "1.1.1 2.2.2|0.0.0")
	for _, run := range badRuns(t) {
		expectValidRuns(t, []impl.Run{run}, false)
		expectValidRuns(t, []impl.Run{run, good[0]}, false)
		expectValidRuns(t, []impl.Run{run, good[0], good[1]}, false)
		expectValidRuns(t, []impl.Run{good[0], run, good[1]}, false)
		expectValidRuns(t, []impl.Run{good[0], good[1], run}, false)
		expectValidRuns(t, []impl.Run{run, run}, false)
	}
}

func TestAreValidRunsLooksAtEveryRow(t *testing.T) {
	sorted := sortedRows(manyRows(24))
	for i := range sorted {
		rows := slices.Clone(sorted)
		// The rows are still in order.
		rows[i].Width = 4
		expectValidRuns(t, []impl.Run{{Rows: rows}}, false)
		if i > 0 {
			rows = slices.Clone(sorted)
			rows[i-1], rows[i] = rows[i], rows[i-1]
			expectValidRuns(t, []impl.Run{{Rows: rows}}, false)
			rows[i-1] = rows[i]
			expectValidRuns(t, []impl.Run{{Rows: rows}}, true)
		}
	}
}

func TestAreValidRunsOfEveryShortRun(t *testing.T) {
	ascending := ascendingRows()
	for _, places := range placesUpTo(4, len(ascending)) {
		// The rows from 3 to 6 are the valid ones.
		isOutside := func(place int) bool { return place < 3 || place > 6 }
		want := len(places) > 0 && slices.IsSorted(places) && !slices.ContainsFunc(places, isOutside)
		expectValidRuns(t, []impl.Run{{Rows: elementsAt(ascending, places)}}, want)
	}
}

func TestFlattenRuns(t *testing.T) {
	for _, c := range []struct{ runs, want string }{
		{"", ""},
		{"|", ""},
		{"||", ""},
		{"1.1.1", "1.1.1"},
		{"1.1.1 2.2.2", "1.1.1 2.2.2"},
		{"1.1.1|2.2.2", "1.1.1 2.2.2"},
		{"2.2.2|1.1.1", "2.2.2 1.1.1"},
		{"2.2.2 1.1.1|2.2.2 1.1.1", "2.2.2 1.1.1 2.2.2 1.1.1"},
		{"|1.1.1", "1.1.1"},
		{"1.1.1|", "1.1.1"},
		{"3.3.3 4.4.0||1.1.1|2.2.2 0.0.0", "3.3.3 4.4.0 1.1.1 2.2.2 0.0.0"},
	} {
		expectFlat(t, parsedRuns(t, c.runs), parsedRows(t, c.want))
	}
	expectFlat(t, []impl.Run{}, nil)
	expectFlat(t, []impl.Run{{}}, nil)
	expectFlat(t, []impl.Run{{Rows: []impl.Row{}}, {}}, nil)
}

func TestFlattenRunsOfRowsThatAreNotValid(t *testing.T) {
	expectFlat(t, []impl.Run{{Rows: invalidRows()}}, invalidRows())
	expectFlat(t, []impl.Run{{Rows: allRows()}, {}, {Rows: invalidRows()}}, append(allRows(), invalidRows()...))
	var singles []impl.Run
	for _, row := range allRows() {
		singles = append(singles, impl.Run{Rows: []impl.Row{row}})
	}
	expectFlat(t, singles, allRows())
}

func TestFormatRuns(t *testing.T) {
	for _, s := range []string{
		"1.1.1", "0.0.0", "9.99.3", "1.1.1 2.2.2", "1.1.1|2.2.2", "2.2.2|1.1.1", "1.1.1 2.2.2|0.0.0|3.3.3 4.4.0",
		"3.0.3 4.0.3 5.0.3 6.0.3|1.0.3",
		// Runs that are empty or not sorted are formatted all the same.
		"|", "||", "|1.1.1", "1.1.1|", "1.1.1||2.2.2", "2.2.2 1.1.1|2.2.2 1.1.1",
		strings.Repeat("9.99.3|", 999) + "0.0.0",
	} {
		expectRunsFormat(t, parsedRuns(t, s), s)
	}
	for _, none := range [][]impl.Run{nil, {}, {{}}, {{Rows: []impl.Row{}}}, parsedRuns(t, "1.1.1")[:0]} {
		expectRunsFormat(t, none, "")
	}
	expectRunsFormat(t, []impl.Run{{}, {Rows: []impl.Row{}}, {}}, "||")
}

func TestFormatRunsOfRowsThatAreNotValid(t *testing.T) {
	good := parsedRuns(t, "1.1.1 2.2.2")[0]
	for _, row := range invalidRows() {
		for _, bad := range []impl.Run{{Rows: []impl.Row{row}}, {Rows: []impl.Row{{}, row}}, {Rows: []impl.Row{row, {}}}} {
			expectRunsFormat(t, []impl.Run{bad}, "")
			expectRunsFormat(t, []impl.Run{bad, bad}, "|")
			expectRunsFormat(t, []impl.Run{bad, good}, "|1.1.1 2.2.2")
			expectRunsFormat(t, []impl.Run{good, bad}, "1.1.1 2.2.2|")
			expectRunsFormat(t, []impl.Run{good, bad, good}, "1.1.1 2.2.2||1.1.1 2.2.2")
		}
	}
	expectRunsFormat(t, []impl.Run{{Rows: make([]impl.Row, 25)}, good}, "|1.1.1 2.2.2")
	full := strings.TrimSpace(strings.Repeat("0.0.0 ", 24))
	expectRunsFormat(t, []impl.Run{{Rows: make([]impl.Row, 24)}, good}, full+"|1.1.1 2.2.2")
}

func TestRunFunctionsLeaveTheirArguments(t *testing.T) {
	for _, given := range runLists(t) {
		for _, runs := range [][]impl.Run{slackRuns(given), sharingRuns(given)} {
			before := dumpRuns(runs)
			for range 2 {
				impl.AreValidRuns(runs)
				impl.FlattenRuns(runs)
				impl.FormatRuns(runs)
				for _, run := range runs {
					impl.IndexOfMin(run.Rows)
					impl.BuildRuns(run.Rows, 8)
					impl.BuildRuns(run.Rows, 60)
				}
			}
			if !slices.Equal(dumpRuns(runs), before) {
				t.Fatalf("%v or its capacity is modified", given)
			}
		}
	}
	for count := range 26 {
		rows := slackRows(manyRows(count))
		before := slices.Clone(rows[:cap(rows)])
		for memory := 7; memory <= 61; memory++ {
			impl.BuildRuns(rows, memory)
			impl.IndexOfMin(rows)
		}
		if !slices.Equal(rows[:cap(rows)], before) {
			t.Fatalf("%d rows or their capacity are modified", count)
		}
	}
}

func TestRunFunctionsReturnNewMemory(t *testing.T) {
	for count := range 25 {
		for _, rows := range [][]impl.Row{manyRows(count), slackRows(manyRows(count)), slackRows(sortedRows(manyRows(count)))} {
			for memory := 8; memory <= 60; memory++ {
				expectApart(t, runPointersOf(built(t, rows, memory)), pointersTo(rows))
			}
		}
	}
	for _, given := range runLists(t) {
		for _, runs := range [][]impl.Run{given, slackRuns(given), sharingRuns(given)} {
			expectApart(t, pointersTo(impl.FlattenRuns(runs)), flatPointersOf(runs))
		}
	}
}

// A result may be changed without an effect on the rows that were passed in,
// on another run, or on another answer.
func TestRunsOfAResultCanBeChanged(t *testing.T) {
	for count := range 25 {
		for memory := 8; memory <= 60; memory++ {
			rows := manyRows(count)
			want := simulatedRuns(rows, memory)
			first, second := built(t, rows, memory), built(t, rows, memory)
			for i := range first {
				_ = append(first[i].Rows, impl.Row{Key: 77}, impl.Row{Key: 77})
				overwrite(first[i].Rows)
				first[i].Rows = slices.Clone(want[i].Rows)
				if !equalRuns(first, want) {
					t.Fatalf("run %d of %v shares memory with another run", i, want)
				}
			}
			clear(first)
			if !slices.Equal(rows, manyRows(count)) || !equalRuns(second, want) || !equalRuns(built(t, rows, memory), want) {
				t.Fatalf("the rows %v or their runs change with a result", rows)
			}
			overwrite(rows)
			if !equalRuns(second, want) {
				t.Fatalf("a result changes with the rows %v", manyRows(count))
			}
		}
	}
}

func TestRowsOfFlattenRunsCanBeChanged(t *testing.T) {
	for _, given := range runLists(t) {
		runs := slackRuns(given)
		before, want := dumpRuns(runs), rowsOfRuns(given)
		first, second := impl.FlattenRuns(runs), impl.FlattenRuns(runs)
		overwrite(first)
		if !slices.Equal(dumpRuns(runs), before) || !slices.Equal(second, want) || !slices.Equal(impl.FlattenRuns(runs), want) {
			t.Fatalf("%v or its rows change with a result", given)
		}
	}
}

func expectBuilt(t *testing.T, rows string, memory int, want string) {
	t.Helper()
	input := parsedRows(t, strings.TrimSpace(rows))
	expectRuns(t, input, memory, parsedRuns(t, want))
	if got := impl.FormatRuns(built(t, input, memory)); got != want {
		t.Errorf("the runs of %s with the memory %d are formatted as %q", rows, memory, got)
	}
}

func expectRuns(t *testing.T, rows []impl.Row, memory int, want []impl.Run) {
	t.Helper()
	if got := built(t, rows, memory); !equalRuns(got, want) {
		t.Fatalf("BuildRuns(%v, %d) = %v, want %v", rows, memory, got, want)
	}
	expectLargeRuns(t, rows, memory)
}

func expectSimulatedRuns(t *testing.T, rows []impl.Row, memory int) {
	t.Helper()
	expectRuns(t, rows, memory, simulatedRuns(rows, memory))
}

// expectLargeRuns checks what the document promises of the runs: they hold
// exactly the rows, each is sorted and not empty, each but the last is larger
// than the memory minus one row, and one is enough for rows that all fit.
func expectLargeRuns(t *testing.T, rows []impl.Row, memory int) {
	t.Helper()
	runs := built(t, rows, memory)
	if !slices.Equal(sortedRows(rowsOfRuns(runs)), sortedRows(rows)) || !slices.Equal(impl.FlattenRuns(runs), rowsOfRuns(runs)) {
		t.Fatalf("the rows %v are not those of the runs %v", rows, runs)
	}
	widest := 0
	for _, row := range rows {
		widest = max(widest, 1+row.Width)
	}
	for i, run := range runs {
		if len(run.Rows) == 0 || !slices.Equal(run.Rows, sortedRows(run.Rows)) {
			t.Fatalf("run %d of %v is empty or not sorted", i, runs)
		}
		if i < len(runs)-1 && costOf(run.Rows) <= memory-widest {
			t.Fatalf("with the memory %d run %d of %v is too small", memory, i, runs)
		}
	}
	if costOf(rows) <= memory && len(runs) > 1 {
		t.Fatalf("the rows %v fit into %d, but their runs are %v", rows, memory, runs)
	}
	if !impl.AreValidRuns(runs) {
		t.Fatalf("the runs %v are rejected", runs)
	}
}

func expectNoRuns(t *testing.T, rows []impl.Row, memory int) {
	t.Helper()
	if runs, ok := impl.BuildRuns(rows, memory); len(runs) > 0 || ok {
		t.Fatalf("BuildRuns(%v, %d) = %v, %v", rows, memory, runs, ok)
	}
}

func expectIndexOfMin(t *testing.T, rows []impl.Row, want int) {
	t.Helper()
	if got := impl.IndexOfMin(rows); got != want {
		t.Fatalf("IndexOfMin(%v) = %d, want %d", rows, got, want)
	}
}

func expectValidRuns(t *testing.T, runs []impl.Run, want bool) {
	t.Helper()
	if got := impl.AreValidRuns(runs); got != want {
		t.Fatalf("AreValidRuns(%v) = %v", runs, got)
	}
}

func expectFlat(t *testing.T, runs []impl.Run, want []impl.Row) {
	t.Helper()
	if got := impl.FlattenRuns(runs); !slices.Equal(got, want) {
		t.Fatalf("FlattenRuns(%v) = %v, want %v", runs, got, want)
	}
}

func expectRunsFormat(t *testing.T, runs []impl.Run, want string) {
	t.Helper()
	if got := impl.FormatRuns(runs); got != want {
		t.Fatalf("FormatRuns(%v) = %.200q, want %.200q", runs, got, want)
	}
}

func built(t *testing.T, rows []impl.Row, memory int) []impl.Run {
	t.Helper()
	runs, ok := impl.BuildRuns(rows, memory)
	if !ok {
		t.Fatalf("BuildRuns(%v, %d) fails", rows, memory)
	}
	return runs
}

// longInputs returns up to 24 rows, often equal or wide ones. Most of them
// depend on the seed.
func longInputs(seed int) [][]impl.Row {
	var inputs [][]impl.Row
	for count := range 25 {
		inputs = append(inputs, manyRows(count))
	}
	state := seed
	random := func(limit int) int {
		state = state * 48271 % 2147483647
		return state / 64 % limit
	}
	for range 100 {
		// Few of the limits, so that some rows are equal and some wide.
		keys, values, widths := 1+random(10), 1+random(100), 1+random(4)
		rows := make([]impl.Row, 15+random(10))
		for i := range rows {
			rows[i] = impl.Row{Key: random(keys), Value: random(values), Width: 3 - random(widths)}
		}
		inputs = append(inputs, rows)
	}
	return inputs
}

// The places where a simulation keeps a row.
const (
	inInput = iota
	inCurrentSet
	inDeferredSet
	inRun
)

// simulatedRuns performs the three actions of the document one by one. A row
// keeps its number in the input; what changes is the place where it is kept.
func simulatedRuns(rows []impl.Row, memory int) []impl.Run {
	places := make([]int, len(rows))
	var runs []impl.Run
	var run []impl.Row
	for {
		input, current, deferred := indicesOf(places, inInput), indicesOf(places, inCurrentSet), indicesOf(places, inDeferredSet)
		held := costOf(elementsAt(rows, current)) + costOf(elementsAt(rows, deferred))
		switch {
		case len(input) > 0 && held+1+rows[input[0]].Width <= memory:
			places[input[0]] = inCurrentSet
			if len(run) > 0 && rankOf(rows[input[0]]) < rankOf(run[len(run)-1]) {
				places[input[0]] = inDeferredSet
			}
		case len(current) == 0 && len(deferred) > 0:
			runs, run = append(runs, impl.Run{Rows: run}), nil
			for _, i := range deferred {
				places[i] = inCurrentSet
			}
		case len(current) > 0:
			least := slices.MinFunc(current, func(i, j int) int { return cmp.Compare(rankOf(rows[i]), rankOf(rows[j])) })
			run = append(run, rows[least])
			places[least] = inRun
		case len(run) > 0:
			return append(runs, impl.Run{Rows: run})
		default:
			return runs
		}
	}
}

func indicesOf(numbers []int, number int) []int {
	var indices []int
	for i, n := range numbers {
		if n == number {
			indices = append(indices, i)
		}
	}
	return indices
}

// rankOf returns the place of a valid row among all valid rows in ascending
// order.
func rankOf(row impl.Row) int {
	return 400*row.Key + 4*row.Value + row.Width
}

// sortedRows returns valid rows in ascending order.
func sortedRows(rows []impl.Row) []impl.Row {
	sorted := slices.Clone(rows)
	slices.SortFunc(sorted, func(a, b impl.Row) int { return cmp.Compare(rankOf(a), rankOf(b)) })
	return sorted
}

func reversed(rows []impl.Row) []impl.Row {
	turned := slices.Clone(rows)
	slices.Reverse(turned)
	return turned
}

// descendingRowsOfCost returns at most 15 rows of this cost in descending
// order. They are all greater than any row of the keys 0 and 1.
func descendingRowsOfCost(cost int) []impl.Row {
	var rows []impl.Row
	for cost > 0 {
		width := min(cost, 4) - 1
		rows = append(rows, impl.Row{Key: 9 - len(rows)/2, Value: 99 - len(rows), Width: width})
		cost -= 1 + width
	}
	return rows
}

// parsedRuns reads runs from the formats of their rows, separated by bars. An
// empty format is an empty run, unless there is no bar.
func parsedRuns(t *testing.T, s string) []impl.Run {
	t.Helper()
	if s == "" {
		return nil
	}
	var runs []impl.Run
	for _, format := range strings.Split(s, "|") {
		runs = append(runs, impl.Run{Rows: parsedRows(t, strings.TrimSpace(format))})
	}
	return runs
}

// badRuns returns runs that are empty, not sorted, or not of valid rows.
func badRuns(t *testing.T) []impl.Run {
	t.Helper()
	bad := []impl.Run{
		{},
		{Rows: []impl.Row{}},
		{Rows: manyRows(3)[:0]},
		{Rows: make([]impl.Row, 25)},
		{Rows: sortedRows(manyRows(25))},
		{Rows: invalidRows()},
		{Rows: ascendingRows()},
		// In order, with an invalid row in the first or in the last place.
		{Rows: []impl.Row{{Key: -1}, {}}},
		{Rows: []impl.Row{{Key: math.MinInt}, {}, {}}},
		{Rows: []impl.Row{{}, {Key: 10}}},
		{Rows: []impl.Row{{}, {}, {Key: math.MaxInt}}},
	}
	for _, row := range invalidRows() {
		bad = append(bad, impl.Run{Rows: []impl.Row{row}}, impl.Run{Rows: []impl.Row{row, row}})
	}
	for _, s := range []string{
		"2.2.2 1.1.1", "1.1.1 0.9.3", "1.1.1 1.0.3", "1.1.1 1.1.0", "2.2.2 1.1.1 3.3.3", "1.1.1 3.3.3 2.2.2", "1.1.1 1.1.1 1.1.0",
	} {
		bad = append(bad, impl.Run{Rows: parsedRows(t, s)})
	}
	return bad
}

// runLists returns runs of every kind, among them empty and invalid ones.
func runLists(t *testing.T) [][]impl.Run {
	t.Helper()
	lists := [][]impl.Run{nil, {{}}, {{}, {}}, badRuns(t), {{Rows: allRows()}}, {{Rows: manyRows(25)}, {Rows: manyRows(24)}}}
	for _, s := range []string{"1.1.1", "1.1.1 2.2.2", "1.1.1|2.2.2", "3.3.3 4.4.0||1.1.1|2.2.2 0.0.0", "|1.1.1", "1.1.1|", "|||"} {
		lists = append(lists, parsedRuns(t, s))
	}
	for count := range 25 {
		lists = append(lists, simulatedRuns(manyRows(count), 8), simulatedRuns(manyRows(count), 60))
	}
	return lists
}

func rowsOfRuns(runs []impl.Run) []impl.Row {
	lists := make([][]impl.Row, len(runs))
	for i, run := range runs {
		lists[i] = run.Rows
	}
	return slices.Concat(lists...)
}

// equalRuns takes a nil slice and an empty slice for the same.
func equalRuns(a []impl.Run, b []impl.Run) bool {
	return slices.EqualFunc(a, b, func(a, b impl.Run) bool {
		return slices.Equal(a.Rows, b.Rows)
	})
}

// runPointersOf returns pointers to all runs and all their rows, used and
// unused.
func runPointersOf(runs []impl.Run) []any {
	return append(pointersTo(runs), flatPointersOf(runs)...)
}

func flatPointersOf(runs []impl.Run) []any {
	var pointers []any
	for _, run := range runs {
		pointers = append(pointers, pointersTo(run.Rows)...)
	}
	return pointers
}

// dumpRuns returns all numbers of the runs, with those in unused capacity.
func dumpRuns(runs []impl.Run) []int {
	numbers := []int{len(runs)}
	for _, run := range runs[:cap(runs)] {
		numbers = append(numbers, len(run.Rows))
		for _, row := range run.Rows[:cap(run.Rows)] {
			numbers = append(numbers, row.Key, row.Value, row.Width)
		}
	}
	return numbers
}

// slackRuns returns the runs in new memory with two unused elements behind
// every slice, which a function could write to.
func slackRuns(runs []impl.Run) []impl.Run {
	slack := make([]impl.Run, len(runs))
	for i, run := range runs {
		slack[i].Rows = slackRows(run.Rows)
	}
	return withUnused(slack, impl.Run{Rows: []impl.Row{{Key: 77}}})
}

// sharingRuns returns the runs with all their rows in one slice, so that every
// run goes on into the next one.
func sharingRuns(runs []impl.Run) []impl.Run {
	rows := rowsOfRuns(runs)
	sharing := make([]impl.Run, len(runs))
	for i, run := range runs {
		sharing[i].Rows, rows = rows[:len(run.Rows)], rows[len(run.Rows):]
	}
	return sharing
}
