package tests

import (
	"cmp"
	"math"
	"slices"
	"strings"
	"testing"

	"loop.example/g01920/impl"
)

func TestMergeExamplesOfTheDocument(t *testing.T) {
	expectPasses(t, 5, 3)
	// The rows of the example of chapter 11: two runs, so one pass.
	expectExternalSort(t, parsedRows(t, "5.0.3 3.0.3 4.0.3 1.0.3 6.0.3"), 8, 40)
}

func TestMergeSortedOfEmptySlices(t *testing.T) {
	lists := [][]impl.Row{allRows(), invalidRows(), manyRows(25), sortedRows(manyRows(24)), parsedRows(t, "2.2.2 1.1.1 1.1.1"), {{}}, {{Key: -1}}}
	for _, none := range [][]impl.Row{nil, {}, manyRows(3)[:0]} {
		for _, otherNone := range [][]impl.Row{nil, {}, manyRows(3)[3:]} {
			expectMergedRows(t, none, otherNone, nil)
		}
		// The order is kept even if the rows are not sorted.
		for _, rows := range lists {
			expectMergedRows(t, none, rows, rows)
			expectMergedRows(t, rows, none, rows)
		}
	}
}

func TestMergeSortedOfSortedRows(t *testing.T) {
	for _, c := range []struct{ a, b, want string }{
		{"1.1.0 3.3.0", "2.2.0 3.3.0 4.4.0", "1.1.0 2.2.0 3.3.0 3.3.0 4.4.0"},
		{"1.1.1", "1.1.1", "1.1.1 1.1.1"},
		{"1.1.1 1.1.1", "1.1.1", "1.1.1 1.1.1 1.1.1"},
		{"1.1.1 2.2.2", "1.1.1 2.2.2", "1.1.1 1.1.1 2.2.2 2.2.2"},
		// Rows that differ in one number.
		{"1.1.1", "1.1.2", "1.1.1 1.1.2"},
		{"1.1.1", "1.2.0", "1.1.1 1.2.0"},
		{"1.1.1", "2.0.0", "1.1.1 2.0.0"},
		// One slice ends long before the other.
		{"1.1.1", "2.2.2 3.3.3 4.4.0 5.5.1", "1.1.1 2.2.2 3.3.3 4.4.0 5.5.1"},
		{"9.9.3", "2.2.2 3.3.3 4.4.0 5.5.1", "2.2.2 3.3.3 4.4.0 5.5.1 9.9.3"},
		{"4.0.0", "2.2.2 3.3.3 4.4.0 5.5.1", "2.2.2 3.3.3 4.0.0 4.4.0 5.5.1"},
		{"0.0.0 1.0.0 2.0.0 3.0.0", "0.0.1 1.0.1 2.0.1 3.0.1", "0.0.0 0.0.1 1.0.0 1.0.1 2.0.0 2.0.1 3.0.0 3.0.1"},
	} {
		a, b, want := parsedRows(t, c.a), parsedRows(t, c.b), parsedRows(t, c.want)
		expectMergedRows(t, a, b, want)
		expectMergedRows(t, b, a, want)
	}
	// More rows than an input has.
	all := allRows()
	for _, place := range []int{0, 1, 24, len(all) / 2, len(all) - 1, len(all)} {
		expectMergedRows(t, all[:place], all[place:], all)
		expectMergedRows(t, all[place:], all[:place], all)
	}
	var evens, odds []impl.Row
	for i := 0; i < len(all); i += 2 {
		evens, odds = append(evens, all[i]), append(odds, all[i+1])
	}
	expectMergedRows(t, evens, odds, all)
	expectMergedRows(t, odds, evens, all)
}

// Equal rows are equal in everything, so which of them is taken shows only in
// the rows that follow it.
func TestWhichOfTwoEqualRowsIsTakenFirst(t *testing.T) {
	for _, c := range []struct{ a, b, want string }{
		{"2.2.2 1.1.1", "2.2.2 3.3.3", "2.2.2 1.1.1 2.2.2 3.3.3"},
		{"2.2.2 3.3.3", "2.2.2 1.1.1", "2.2.2 2.2.2 1.1.1 3.3.3"},
		{"2.2.2 1.1.1", "2.2.2 0.0.0", "2.2.2 1.1.1 2.2.2 0.0.0"},
		{"2.2.2 0.0.0", "2.2.2 1.1.1", "2.2.2 0.0.0 2.2.2 1.1.1"},
		{"2.2.2 2.2.2 1.1.1", "2.2.2 0.0.0", "2.2.2 2.2.2 1.1.1 2.2.2 0.0.0"},
		{"1.1.1 2.2.2 0.0.1", "2.2.2 0.0.0", "1.1.1 2.2.2 0.0.1 2.2.2 0.0.0"},
		{"2.2.2 0.0.1", "1.1.1 2.2.2 0.0.0", "1.1.1 2.2.2 0.0.1 2.2.2 0.0.0"},
		// The row of b is less in one number, so it comes first.
		{"2.2.2 1.1.1", "2.2.1 0.0.0", "2.2.1 0.0.0 2.2.2 1.1.1"},
		{"2.2.2 1.1.1", "2.1.3 0.0.0", "2.1.3 0.0.0 2.2.2 1.1.1"},
		{"2.2.2 1.1.1", "1.9.3 0.0.0", "1.9.3 0.0.0 2.2.2 1.1.1"},
		// It is greater in one number.
		{"2.2.2 1.1.1", "2.2.3 0.0.0", "2.2.2 1.1.1 2.2.3 0.0.0"},
		{"2.2.2 1.1.1", "2.3.0 0.0.0", "2.2.2 1.1.1 2.3.0 0.0.0"},
		{"2.2.2 1.1.1", "3.0.0 0.0.0", "2.2.2 1.1.1 3.0.0 0.0.0"},
	} {
		expectMergedRows(t, parsedRows(t, c.a), parsedRows(t, c.b), parsedRows(t, c.want))
	}
}

func TestMergeSortedOfRowsThatAreNotSorted(t *testing.T) {
	for _, c := range []struct{ a, b, want string }{
		{"3.0.0 1.0.0", "2.0.0", "2.0.0 3.0.0 1.0.0"},
		{"2.0.0", "3.0.0 1.0.0", "2.0.0 3.0.0 1.0.0"},
		{"1.0.0 3.0.0 2.0.0", "2.0.1", "1.0.0 2.0.1 3.0.0 2.0.0"},
		{"9.0.0 0.0.0 1.0.0", "8.0.0 0.0.1 1.0.1", "8.0.0 0.0.1 1.0.1 9.0.0 0.0.0 1.0.0"},
		{"5.0.0 4.0.0 6.0.0", "5.0.1 4.0.1 6.0.1", "5.0.0 4.0.0 5.0.1 4.0.1 6.0.0 6.0.1"},
		{"4.0.0 3.0.0 2.0.0 1.0.0", "1.0.1 2.0.1 3.0.1 4.0.1", "1.0.1 2.0.1 3.0.1 4.0.0 3.0.0 2.0.0 1.0.0 4.0.1"},
	} {
		expectMergedRows(t, parsedRows(t, c.a), parsedRows(t, c.b), parsedRows(t, c.want))
	}
}

func TestMergeSortedOfRowsThatAreNotValid(t *testing.T) {
	for _, row := range invalidRows() {
		one := []impl.Row{row}
		expectMergedRows(t, one, one, []impl.Row{row, row})
		expectMergedRows(t, one, nil, one)
	}
	ascending := ascendingRows()
	for place := range len(ascending) + 1 {
		expectMergedRows(t, ascending[:place], ascending[place:], ascending)
		expectMergedRows(t, ascending[place:], ascending[:place], ascending)
	}
	// An invalid row is compared by its numbers, although it costs nothing.
	least, greatest := impl.Row{Key: math.MinInt}, impl.Row{Key: math.MaxInt}
	expectMergedRows(t, []impl.Row{greatest, least}, []impl.Row{{}}, []impl.Row{{}, greatest, least})
	expectMergedRows(t, []impl.Row{least, greatest}, []impl.Row{{}}, []impl.Row{least, {}, greatest})
}

// The rows differ in one number each, some are not valid, and most of the
// slices are not sorted.
func TestMergeSortedOfEveryPairOfShortSlices(t *testing.T) {
	ascending := ascendingRows()
	expectMergedPairs(t, ascending, placesUpTo(2, len(ascending)))
	expectMergedPairs(t, ascending[2:6], placesUpTo(3, 4))
	expectMergedPairs(t, ascending[4:7], placesUpTo(4, 3))
	expectMergedPairs(t, ascending[6:8], placesUpTo(6, 2))
}

func TestMergePass(t *testing.T) {
	for _, c := range []struct{ runs, want string }{
		{"", ""},
		{"1.1.1", "1.1.1"},
		{"2.2.2|1.1.1", "1.1.1 2.2.2"},
		{"1.1.0 3.3.0|2.2.0 3.3.0 4.4.0", "1.1.0 2.2.0 3.3.0 3.3.0 4.4.0"},
		{"3.0.0|2.0.0|1.0.0", "2.0.0 3.0.0|1.0.0"},
		{"4.0.0|3.0.0|2.0.0|1.0.0", "3.0.0 4.0.0|1.0.0 2.0.0"},
		{"5.0.0|4.0.0|3.0.0|2.0.0|1.0.0", "4.0.0 5.0.0|2.0.0 3.0.0|1.0.0"},
		{"5.0.0 9.0.0|4.0.0 8.0.0|3.0.0 7.0.0|2.0.0|1.0.0|0.0.0 6.0.0", "4.0.0 5.0.0 8.0.0 9.0.0|2.0.0 3.0.0 7.0.0|0.0.0 1.0.0 6.0.0"},
		// Equal runs, and runs of equal rows.
		{"1.1.1|1.1.1|1.1.1", "1.1.1 1.1.1|1.1.1"},
		{"1.1.1 1.1.1|1.1.1|1.1.1", "1.1.1 1.1.1 1.1.1|1.1.1"},
	} {
		expectPass(t, parsedRuns(t, c.runs), parsedRuns(t, c.want))
	}
	expectPass(t, []impl.Run{}, nil)
	expectPass(t, parsedRuns(t, "1.1.1|2.2.2")[:0], nil)
}

func TestMergePassOfRunsThatAreNotValid(t *testing.T) {
	for _, c := range []struct{ runs, want string }{
		{"1.1.1|", "1.1.1"},
		{"|1.1.1", "1.1.1"},
		{"||1.1.1", "|1.1.1"},
		{"1.1.1||", "1.1.1|"},
		{"1.1.1|||2.2.2", "1.1.1|2.2.2"},
		{"2.2.2 1.1.1|2.2.2 3.3.3", "2.2.2 1.1.1 2.2.2 3.3.3"},
		{"2.2.2 3.3.3|2.2.2 1.1.1", "2.2.2 2.2.2 1.1.1 3.3.3"},
		{"1.1.1|2.2.2|3.3.3 0.0.0", "1.1.1 2.2.2|3.3.3 0.0.0"},
	} {
		expectPass(t, parsedRuns(t, c.runs), parsedRuns(t, c.want))
	}
	expectPass(t, []impl.Run{{}}, []impl.Run{{}})
	expectPass(t, []impl.Run{{}, {}}, []impl.Run{{}})
	expectPass(t, []impl.Run{{}, {}, {Rows: []impl.Row{}}}, []impl.Run{{}, {}})
	least, greatest := impl.Row{Key: math.MinInt}, impl.Row{Key: math.MaxInt}
	expectPass(t, []impl.Run{{Rows: []impl.Row{greatest}}, {Rows: []impl.Row{least}}}, []impl.Run{{Rows: []impl.Row{least, greatest}}})
	expectPass(t, []impl.Run{{Rows: invalidRows()}, {}, {Rows: allRows()}}, []impl.Run{{Rows: invalidRows()}, {Rows: allRows()}})
	for _, run := range badRuns(t) {
		expectPass(t, []impl.Run{run}, []impl.Run{run})
	}
}

// Run number i has the rows i and 999-i, so that it is seen which runs were
// merged.
func TestMergePassOfEveryNumberOfRuns(t *testing.T) {
	all := allRows()
	for count := range 300 {
		var runs, want []impl.Run
		for i := range count {
			runs = append(runs, impl.Run{Rows: []impl.Row{all[i], all[999-i]}})
			switch {
			case i%2 == 1:
				want = append(want, impl.Run{Rows: []impl.Row{all[i-1], all[i], all[999-i], all[1000-i]}})
			case i == count-1:
				want = append(want, runs[i])
			}
		}
		expectPass(t, runs, want)
	}
}

func TestMergePasses(t *testing.T) {
	for _, c := range []struct{ runs, want int }{
		{math.MinInt, 0}, {math.MinInt + 1, 0}, {-1 << 40, 0}, {-24, 0}, {-2, 0}, {-1, 0},
		{0, 0}, {1, 0}, {2, 1}, {3, 2}, {4, 2}, {5, 3}, {6, 3}, {7, 3}, {8, 3}, {9, 4}, {15, 4}, {16, 4}, {17, 5},
		{23, 5}, {24, 5}, {25, 5}, {32, 5}, {33, 6}, {1000, 10}, {1024, 10}, {1025, 11},
		{math.MaxInt32, 31}, {math.MaxInt32 + 1, 31}, {math.MaxInt32 + 2, 32}, {math.MaxUint32 + 1, 32}, {math.MaxUint32 + 2, 33},
		// The largest numbers that take 38, 39 and 40 passes without the cap.
		{1 << 38, 38}, {1<<38 + 1, 39}, {1<<39 - 1, 39}, {1 << 39, 39}, {1<<39 + 1, 40}, {1<<40 - 1, 40}, {1 << 40, 40},
		// The cap.
		{1<<40 + 1, 40}, {1 << 41, 40}, {1<<41 + 1, 40}, {1 << 50, 40}, {1 << 62, 40}, {1<<62 + 1, 40}, {math.MaxInt - 1, 40}, {math.MaxInt, 40},
	} {
		expectPasses(t, c.runs, c.want)
	}
	for passes := 1; passes <= 62; passes++ {
		expectPasses(t, 1<<(passes-1)+1, min(passes, 40))
		expectPasses(t, 1<<passes, min(passes, 40))
	}
	for runs := range 5000 {
		expectPasses(t, runs, passesByHalving(runs))
		expectPasses(t, -runs, 0)
	}
}

// No way to merge pairs of runs needs fewer passes.
func TestMergePassesAreTheFewest(t *testing.T) {
	fewest := []int{0, 0}
	for runs := 2; runs <= 200; runs++ {
		// A pass may merge from one pair to all of them.
		best := math.MaxInt
		for pairs := 1; pairs <= runs/2; pairs++ {
			best = min(best, 1+fewest[runs-pairs])
		}
		fewest = append(fewest, best)
		expectPasses(t, runs, best)
	}
}

func TestMergeRunsOfNoRuns(t *testing.T) {
	for _, none := range [][]impl.Run{nil, {}, parsedRuns(t, "1.1.1")[:0]} {
		expectMergedRuns(t, none, nil, 0)
	}
}

func TestMergeRunsOfASingleRun(t *testing.T) {
	for _, s := range []string{"0.0.0", "9.99.3", "1.1.1 1.1.1", "1.1.1 1.1.2 1.2.0 2.0.0", strings.TrimSpace(strings.Repeat("4.4.3 ", 24))} {
		expectMergedRuns(t, parsedRuns(t, s), parsedRows(t, s), 0)
		expectPass(t, parsedRuns(t, s), parsedRuns(t, s))
	}
	for count := 1; count <= 24; count++ {
		rows := sortedRows(manyRows(count))
		expectMergedRuns(t, []impl.Run{{Rows: rows}}, rows, 0)
	}
}

func TestMergeRunsOfAFewRuns(t *testing.T) {
	for _, c := range []struct {
		runs, want string
		passes     int
	}{
		{"2.2.2|1.1.1", "1.1.1 2.2.2", 1},
		{"1.1.1|1.1.1", "1.1.1 1.1.1", 1},
		{"1.1.0 3.3.0|2.2.0 3.3.0 4.4.0", "1.1.0 2.2.0 3.3.0 3.3.0 4.4.0", 1},
		// Of three runs the last one is copied, and then merged.
		{"1.1.0 3.3.0|2.2.0 3.3.0 4.4.0|1.1.0 3.3.0", "1.1.0 1.1.0 2.2.0 3.3.0 3.3.0 3.3.0 4.4.0", 2},
		{"3.0.0|2.0.0|1.0.0", "1.0.0 2.0.0 3.0.0", 2},
		{"3.0.0|2.0.0|1.0.0 9.0.0", "1.0.0 2.0.0 3.0.0 9.0.0", 2},
		{"3.0.0|2.0.0|1.0.0|0.0.0", "0.0.0 1.0.0 2.0.0 3.0.0", 2},
		// Of five runs the last one is copied twice.
		{"5.0.0|4.0.0|3.0.0|2.0.0|1.0.0", "1.0.0 2.0.0 3.0.0 4.0.0 5.0.0", 3},
		{"5.0.0|4.0.0|3.0.0|2.0.0|1.0.0 9.0.0", "1.0.0 2.0.0 3.0.0 4.0.0 5.0.0 9.0.0", 3},
		// Of six runs the last two are merged first and then copied.
		{"5.0.0|4.0.0|3.0.0|2.0.0|1.0.0|0.0.0", "0.0.0 1.0.0 2.0.0 3.0.0 4.0.0 5.0.0", 3},
		{"7.0.0|6.0.0|5.0.0|4.0.0|3.0.0|2.0.0|1.0.0|0.0.0", "0.0.0 1.0.0 2.0.0 3.0.0 4.0.0 5.0.0 6.0.0 7.0.0", 3},
		{"8.0.0|7.0.0|6.0.0|5.0.0|4.0.0|3.0.0|2.0.0|1.0.0|0.0.0", "0.0.0 1.0.0 2.0.0 3.0.0 4.0.0 5.0.0 6.0.0 7.0.0 8.0.0", 4},
	} {
		expectMergedRuns(t, parsedRuns(t, c.runs), parsedRows(t, c.want), c.passes)
	}
}

func TestMergeRunsOfEveryNumberOfRuns(t *testing.T) {
	numbers := []int{511, 512, 513, 1000, 1023, 1024, 1025, 4095, 4096, 4097, 65535, 65536, 65537}
	for count := range 260 {
		numbers = append(numbers, count)
	}
	for _, count := range numbers {
		runs := singleRowRuns(count)
		expectMergedRuns(t, runs, sortedRows(rowsOfRuns(runs)), passesByHalving(count))
	}
	// Together the runs have more rows than an input has.
	for count := range 26 {
		runs := slices.Repeat([]impl.Run{{Rows: sortedRows(manyRows(24))}, {Rows: manyRows(1)}}, count)
		expectMergedRuns(t, runs, sortedRows(rowsOfRuns(runs)), passesByHalving(2*count))
	}
}

func TestMergeRunsOfTheRunsOfAnInput(t *testing.T) {
	for memory := 8; memory <= 60; memory += 4 {
		for _, rows := range longInputs(memory) {
			runs := simulatedRuns(rows, memory)
			expectMergedRuns(t, runs, sortedRows(rows), passesByHalving(len(runs)))
		}
	}
}

func TestMergeRunsOfRunsThatAreNotValid(t *testing.T) {
	for _, bad := range badRuns(t) {
		expectNoMerge(t, []impl.Run{bad})
		expectNoMerge(t, []impl.Run{bad, bad})
		for count := 1; count <= 9; count++ {
			for place := range count + 1 {
				expectNoMerge(t, slices.Insert(singleRowRuns(count), place, bad))
			}
		}
	}
	// One run that is not valid among many.
	for _, place := range []int{0, 1, 499, 998, 999} {
		runs := singleRowRuns(1000)
		runs[place] = impl.Run{}
		expectNoMerge(t, runs)
	}
}

func TestExternalSortOfNoRows(t *testing.T) {
	for memory := 8; memory <= 60; memory++ {
		for _, none := range [][]impl.Row{nil, {}, manyRows(3)[:0]} {
			expectExternalSort(t, none, memory, 0)
		}
	}
}

func TestExternalSortOfOneRow(t *testing.T) {
	for _, row := range allRows() {
		for _, memory := range []int{8, 9, 60} {
			expectExternalSort(t, []impl.Row{row}, memory, 1+row.Width)
		}
	}
}

func TestExternalSortOfWrittenRows(t *testing.T) {
	for _, c := range []struct {
		rows         string
		memory, cost int
	}{
		// They fit the memory, so they are one run.
		{"7.0.3 3.0.3", 8, 8},
		{"4.0.3 3.0.3 2.0.2 1.0.0", 12, 12},
		{"4.0.3 3.0.3 2.0.2 1.0.0", 60, 12},
		// They do not fit: two runs, one pass.
		{"4.0.3 3.0.3 2.0.2 1.0.0", 11, 24},
		{"4.0.3 3.0.3 2.0.2 1.0.0", 8, 24},
		{"7.0.3 3.0.3 2.0.0", 9, 9},
		{"7.0.3 3.0.3 2.0.0", 8, 18},
		// They do not fit, but one run is enough.
		{"1.0.3 2.0.3 3.0.3 4.0.3 5.0.3", 8, 20},
		{"2.0.3 1.0.3 4.0.3 3.0.3 5.0.3", 8, 20},
		{"6.6.3 6.6.3 6.6.3 6.6.3 6.6.3", 8, 20},
		// Two, three, four and five runs of two wide rows.
		{"9.0.3 8.0.3 7.0.3 6.0.3", 8, 32},
		{"9.0.3 8.0.3 7.0.3 6.0.3 5.0.3", 8, 60},
		{"9.0.3 8.0.3 7.0.3 6.0.3 5.0.3 4.0.3", 8, 72},
		{"9.0.3 8.0.3 7.0.3 6.0.3 5.0.3 4.0.3 3.0.3", 8, 84},
		{"9.0.3 8.0.3 7.0.3 6.0.3 5.0.3 4.0.3 3.0.3 2.0.3", 8, 96},
		{"9.0.3 8.0.3 7.0.3 6.0.3 5.0.3 4.0.3 3.0.3 2.0.3 1.0.3", 8, 144},
		// The least and the largest memory.
		{strings.Repeat("9.9.3 ", 12) + strings.Repeat("0.0.3 ", 12), 8, 192},
		{strings.Repeat("9.9.3 ", 12) + strings.Repeat("0.0.3 ", 12), 60, 96},
		{strings.Repeat("9.9.3 ", 15) + strings.Repeat("0.0.3 ", 9), 60, 192},
	} {
		expectExternalSort(t, parsedRows(t, strings.TrimSpace(c.rows)), c.memory, c.cost)
	}
}

// The widest rows in descending order need the most runs and passes.
func TestExternalSortOfDescendingRows(t *testing.T) {
	for memory := 8; memory <= 60; memory++ {
		for width := range 4 {
			for count := range 25 {
				rows := make([]impl.Row, count)
				for i := range rows {
					rows[i] = impl.Row{Key: (23 - i) / 3, Value: 99 - i, Width: width}
				}
				inMemory := memory / (1 + width)
				runs := (count + inMemory - 1) / inMemory
				expectExternalSort(t, rows, memory, count*(1+width)*(1+passesByHalving(runs)))
			}
		}
	}
	// Twelve runs of two rows each.
	expectExternalSort(t, reversed(sortedRows(rowsOfWidths(slices.Repeat([]int{3}, 24)))), 8, 480)
}

func TestExternalSortOfEveryShortList(t *testing.T) {
	for _, c := range []struct {
		rows     string
		length   int
		memories []int
	}{
		{"1.0.0 1.0.3 2.0.1 3.5.3 3.4.2", 5, []int{8, 9, 10}},
		{"1.1.3 2.2.3 3.3.3", 7, []int{8, 12}},
	} {
		choices := parsedRows(t, c.rows)
		for _, places := range placesUpTo(c.length, len(choices)) {
			for _, memory := range c.memories {
				expectSimulatedSort(t, elementsAt(choices, places), memory)
			}
		}
	}
}

func TestExternalSortOfLongInputs(t *testing.T) {
	for memory := 8; memory <= 60; memory++ {
		for _, rows := range longInputs(1000 + memory) {
			expectSimulatedSort(t, rows, memory)
			expectSimulatedSort(t, reversed(sortedRows(rows)), memory)
		}
	}
}

func TestExternalSortOfMemoryOutOfRange(t *testing.T) {
	inputs := [][]impl.Row{nil, {{}}, manyRows(1), manyRows(24), sortedRows(manyRows(24)), invalidRows(), manyRows(25)}
	for _, rows := range inputs {
		for _, memory := range grantsOutOfRange() {
			expectNoSort(t, rows, memory)
		}
	}
}

func TestExternalSortOfRowsThatAreNotValid(t *testing.T) {
	for memory := 8; memory <= 60; memory++ {
		expectNoSort(t, invalidRows(), memory)
		expectNoSort(t, manyRows(25), memory)
		expectNoSort(t, make([]impl.Row, 25), memory)
		expectNoSort(t, allRows(), memory)
	}
	for _, row := range invalidRows() {
		for i := range 24 {
			rows := manyRows(24)
			rows[i] = row
			expectNoSort(t, rows, 8)
			expectNoSort(t, rows[:i+1], 60)
			expectNoSort(t, rows[i:], 20)
		}
	}
}

func TestMergeFunctionsLeaveTheirArguments(t *testing.T) {
	for _, given := range runLists(t) {
		for _, runs := range [][]impl.Run{slackRuns(given), sharingRuns(given)} {
			before := dumpRuns(runs)
			for range 2 {
				impl.MergePass(runs)
				impl.MergeRuns(runs)
				for i, run := range runs {
					impl.MergeSorted(run.Rows, runs[len(runs)-1-i].Rows)
					impl.ExternalSort(run.Rows, 8)
					impl.ExternalSort(run.Rows, 60)
				}
			}
			if !slices.Equal(dumpRuns(runs), before) {
				t.Fatalf("%v or its capacity is modified", given)
			}
		}
	}
	for count := range 26 {
		rows := slackRows(manyRows(count))
		before := slices.Clone(rows[:cap(rows)])
		for memory := 7; memory <= 61; memory++ {
			impl.ExternalSort(rows, memory)
		}
		for place := range count + 1 {
			// Both slices go on into unused capacity, the first one into the rows
			// of the second.
			impl.MergeSorted(rows[:place], rows[place:])
			impl.MergeSorted(rows[place:], rows[:place])
		}
		impl.MergeSorted(rows, rows)
		if !slices.Equal(rows[:cap(rows)], before) {
			t.Fatalf("%d rows or their capacity are modified", count)
		}
	}
}

func TestMergeFunctionsReturnNewMemory(t *testing.T) {
	for _, given := range runLists(t) {
		for _, runs := range [][]impl.Run{given, slackRuns(given), sharingRuns(given)} {
			arguments := runPointersOf(runs)
			expectApart(t, runPointersOf(impl.MergePass(runs)), arguments)
			merged, _, _ := impl.MergeRuns(runs)
			expectApart(t, pointersTo(merged), arguments)
			for i, run := range runs {
				other := runs[len(runs)-1-i]
				expectApart(t, pointersTo(impl.MergeSorted(run.Rows, other.Rows)), arguments)
				expectApart(t, pointersTo(impl.MergeSorted(run.Rows, nil)), arguments)
				expectApart(t, pointersTo(impl.MergeSorted(nil, run.Rows)), arguments)
			}
		}
	}
	for count := range 25 {
		for _, rows := range [][]impl.Row{manyRows(count), slackRows(manyRows(count)), slackRows(sortedRows(manyRows(count)))} {
			for memory := 8; memory <= 60; memory++ {
				sorted, _, _ := impl.ExternalSort(rows, memory)
				expectApart(t, pointersTo(sorted), pointersTo(rows))
			}
		}
	}
}

// A run of a result may be changed without an effect on the runs that were
// passed in, on another run, or on another answer.
func TestRunsOfMergePassCanBeChanged(t *testing.T) {
	for _, given := range runLists(t) {
		runs := slackRuns(given)
		before := dumpRuns(runs)
		first, second, want := impl.MergePass(runs), impl.MergePass(runs), impl.MergePass(given)
		for i := range first {
			_ = append(first[i].Rows, impl.Row{Key: 77}, impl.Row{Key: 77})
			overwrite(first[i].Rows)
			first[i].Rows = slices.Clone(want[i].Rows)
			if !equalRuns(first, want) {
				t.Fatalf("run %d of %v shares memory with another run", i, want)
			}
		}
		clear(first)
		if !slices.Equal(dumpRuns(runs), before) || !equalRuns(second, want) || !equalRuns(impl.MergePass(runs), want) {
			t.Fatalf("%v or the merged runs change with a result", given)
		}
		for _, run := range runs {
			overwrite(run.Rows)
		}
		clear(runs)
		if !equalRuns(second, want) {
			t.Fatalf("a result changes with the runs %v", given)
		}
	}
}

func TestRowsOfMergeRunsCanBeChanged(t *testing.T) {
	for count := range 25 {
		for _, memory := range []int{8, 13, 60} {
			runs := slackRuns(simulatedRuns(manyRows(count), memory))
			before, want := dumpRuns(runs), sortedRows(manyRows(count))
			first, _, _ := impl.MergeRuns(runs)
			second, _, _ := impl.MergeRuns(runs)
			overwrite(first)
			if !slices.Equal(dumpRuns(runs), before) || !slices.Equal(second, want) {
				t.Fatalf("the runs of %v or their merge change with a result", want)
			}
			expectMergedRuns(t, runs, want, passesByHalving(len(runs)))
			for _, run := range runs {
				overwrite(run.Rows)
			}
			clear(runs)
			if !slices.Equal(second, want) {
				t.Fatalf("a result changes with the runs of %v", want)
			}
		}
	}
}

func TestRowsOfMergeSortedCanBeChanged(t *testing.T) {
	for count := range 25 {
		for place := range count + 1 {
			rows := manyRows(count)
			a, b := rows[:place], rows[place:]
			first, second, want := impl.MergeSorted(a, b), impl.MergeSorted(a, b), impl.MergeSorted(a, b)
			overwrite(first)
			if !slices.Equal(rows, manyRows(count)) || !slices.Equal(second, want) || !slices.Equal(impl.MergeSorted(a, b), want) {
				t.Fatalf("%v, %v or their merge change with a result", a, b)
			}
			overwrite(rows)
			if !slices.Equal(second, want) {
				t.Fatalf("a result changes with its arguments, which gave %v", want)
			}
		}
	}
}

func TestRowsOfExternalSortCanBeChanged(t *testing.T) {
	for count := range 25 {
		for memory := 8; memory <= 60; memory++ {
			rows := manyRows(count)
			want := sortedRows(rows)
			first, _, _ := impl.ExternalSort(rows, memory)
			second, _, _ := impl.ExternalSort(rows, memory)
			overwrite(first)
			if !slices.Equal(rows, manyRows(count)) || !slices.Equal(second, want) {
				t.Fatalf("the rows %v or another answer change with a result", rows)
			}
			expectSimulatedSort(t, rows, memory)
			overwrite(rows)
			if !slices.Equal(second, want) {
				t.Fatalf("a result changes with the rows %v", manyRows(count))
			}
		}
	}
}

func expectMergedRows(t *testing.T, a []impl.Row, b []impl.Row, want []impl.Row) {
	t.Helper()
	if got := impl.MergeSorted(a, b); !slices.Equal(got, want) {
		t.Fatalf("MergeSorted(%v, %v) = %v, want %v", a, b, got, want)
	}
}

// expectMergedPairs merges every two of the lists of places.
func expectMergedPairs(t *testing.T, ascending []impl.Row, all [][]int) {
	t.Helper()
	for _, a := range all {
		for _, b := range all {
			expectMergedRows(t, elementsAt(ascending, a), elementsAt(ascending, b), elementsAt(ascending, mergedPlaces(a, b)))
		}
	}
}

func expectPass(t *testing.T, runs []impl.Run, want []impl.Run) {
	t.Helper()
	if got := impl.MergePass(runs); !equalRuns(got, want) {
		t.Fatalf("MergePass(%v) = %v, want %v", runs, got, want)
	}
}

func expectPasses(t *testing.T, runs int, want int) {
	t.Helper()
	if got := impl.MergePasses(runs); got != want {
		t.Fatalf("MergePasses(%d) = %d, want %d", runs, got, want)
	}
}

// expectMergedRuns also looks whether the passes are as many as MergePasses
// says, and as the passes that are made one by one.
func expectMergedRuns(t *testing.T, runs []impl.Run, want []impl.Row, wantPasses int) {
	t.Helper()
	rows, passes, ok := impl.MergeRuns(runs)
	if !slices.Equal(rows, want) || passes != wantPasses || !ok {
		t.Fatalf("MergeRuns(%v) = %v, %d, %v, want %v, %d", runs, rows, passes, ok, want, wantPasses)
	}
	expectPasses(t, len(runs), wantPasses)
	left := runs
	for range wantPasses {
		if len(left) <= 1 {
			t.Fatalf("%d passes are too many for %v", wantPasses, runs)
		}
		left = impl.MergePass(left)
	}
	if len(left) > 1 || !slices.Equal(rowsOfRuns(left), want) {
		t.Fatalf("after %d passes over %v there are the runs %v", wantPasses, runs, left)
	}
}

func expectNoMerge(t *testing.T, runs []impl.Run) {
	t.Helper()
	if rows, passes, ok := impl.MergeRuns(runs); len(rows) > 0 || passes != 0 || ok {
		t.Fatalf("MergeRuns(%v) = %v, %d, %v", runs, rows, passes, ok)
	}
}

func expectExternalSort(t *testing.T, rows []impl.Row, memory int, wantCost int) {
	t.Helper()
	want := sortedRows(rows)
	if got, cost, ok := impl.ExternalSort(rows, memory); !slices.Equal(got, want) || cost != wantCost || !ok {
		t.Fatalf("ExternalSort(%v, %d) = %v, %d, %v, want %v, %d", rows, memory, got, cost, ok, want, wantCost)
	}
	if !slices.Equal(impl.SortRows(rows), want) {
		t.Fatalf("SortRows(%v) differs from ExternalSort", rows)
	}
}

// expectSimulatedSort takes the number of runs from a simulation of
// replacement selection.
func expectSimulatedSort(t *testing.T, rows []impl.Row, memory int) {
	t.Helper()
	passes := passesByHalving(len(simulatedRuns(rows, memory)))
	expectExternalSort(t, rows, memory, costOf(rows)*(1+passes))
}

func expectNoSort(t *testing.T, rows []impl.Row, memory int) {
	t.Helper()
	if got, cost, ok := impl.ExternalSort(rows, memory); len(got) > 0 || cost != 0 || ok {
		t.Fatalf("ExternalSort(%v, %d) = %v, %d, %v", rows, memory, got, cost, ok)
	}
}

// mergedPlaces merges two lists of numbers by sorting them. A number that is
// less than one before it in its list is taken directly after that, so what
// counts is the largest number up to it. Of two lists with the same largest
// number, a comes first.
func mergedPlaces(a []int, b []int) []int {
	type entry struct{ number, largest int }
	var entries []entry
	for _, numbers := range [][]int{a, b} {
		largest := -1
		for _, number := range numbers {
			largest = max(largest, number)
			entries = append(entries, entry{number, largest})
		}
	}
	slices.SortStableFunc(entries, func(a, b entry) int { return cmp.Compare(a.largest, b.largest) })
	var merged []int
	for _, entry := range entries {
		merged = append(merged, entry.number)
	}
	return merged
}

// passesByHalving returns how many passes leave one of the runs, of which each
// pass leaves the half, rounded up.
func passesByHalving(runs int) int {
	passes := 0
	for runs > 1 {
		runs -= runs / 2
		passes++
	}
	return passes
}

// singleRowRuns returns this many valid runs of one row each, which are not in
// order.
func singleRowRuns(count int) []impl.Run {
	runs := make([]impl.Run, count)
	for i, row := range manyRows(count) {
		runs[i].Rows = []impl.Row{row}
	}
	return runs
}
