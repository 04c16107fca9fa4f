package tests

import (
	"cmp"
	"fmt"
	"math"
	"slices"
	"strconv"
	"strings"
	"testing"

	"loop.example/g01920/impl"
)

func TestSorterExampleOfTheDocument(t *testing.T) {
	if impl.PhaseRead != 1 || impl.PhaseMerge != 2 || impl.PhaseEmit != 3 || impl.PhaseDone != 4 {
		t.Error("the phases are not those of the document")
	}
	input := "5.0.3 3.0.3 4.0.3"
	expectSteps(t, input, 8, []string{
		"0/////0/0/1/0",
		"1/5.0.3////0/0/1/0",
		"2/5.0.3 3.0.3////0/0/1/0",
		"2/5.0.3//3.0.3//0/0/1/4",
		"3/5.0.3 4.0.3//3.0.3//0/0/1/4",
		"3/5.0.3//3.0.3 4.0.3//0/0/1/8",
		"3///3.0.3 4.0.3 5.0.3//0/0/1/12",
		"3////3.0.3 4.0.3 5.0.3/0/0/3/12",
		"3////3.0.3 4.0.3 5.0.3/1/0/3/12",
		"3////3.0.3 4.0.3 5.0.3/2/0/3/12",
		"3////3.0.3 4.0.3 5.0.3/3/0/4/12",
	})
	expectSortTo(t, parsedRows(t, input), []int{8}, 10, 12)
}

func TestSortOfNoRows(t *testing.T) {
	done := impl.Sorter{Phase: impl.PhaseDone}
	for grant := 8; grant <= 60; grant++ {
		for _, none := range [][]impl.Row{nil, {}, manyRows(3)[:0]} {
			sorter := newSorter(t, none)
			expectSorter(t, "NewSorter", sorter, impl.Sorter{Phase: impl.PhaseRead})
			expectStep(t, sorter, grant, done, nil)
			expectSortTo(t, none, []int{grant}, 1, 0)
			expectNoStep(t, done, grant)
		}
	}
}

func TestSortOfOneRow(t *testing.T) {
	for _, row := range allRows() {
		one := []impl.Row{row}
		run := []impl.Run{{Rows: one}}
		cost := 1 + row.Width
		steps := []impl.Sorter{
			{Input: one, Phase: impl.PhaseRead},
			{Input: one, Pos: 1, Heap: one, Phase: impl.PhaseRead},
			{Input: one, Pos: 1, Output: one, Phase: impl.PhaseRead, Written: cost},
			{Input: one, Pos: 1, Runs: run, Phase: impl.PhaseEmit, Written: cost},
			{Input: one, Pos: 1, Runs: run, LeftPos: 1, Phase: impl.PhaseDone, Written: cost},
		}
		expectSorter(t, "NewSorter", newSorter(t, one), steps[0])
		for i, memory := range []int{0, cost, 0, cost, 0} {
			expectValidSorter(t, steps[i], true)
			expectMemory(t, steps[i], memory)
		}
		for i := range 4 {
			var emitted []impl.Row
			if i == 3 {
				emitted = one
			}
			expectStep(t, steps[i], 8, steps[i+1], emitted)
			expectStep(t, steps[i], 60, steps[i+1], emitted)
		}
	}
}

func TestNewSorterOfValidRows(t *testing.T) {
	for count := range 25 {
		for _, rows := range [][]impl.Row{manyRows(count), sortedRows(manyRows(count)), make([]impl.Row, count)} {
			sorter := newSorter(t, rows)
			expectSorter(t, "NewSorter", sorter, impl.Sorter{Input: rows, Phase: impl.PhaseRead})
			expectValidSorter(t, sorter, true)
			expectMemory(t, sorter, 0)
		}
	}
}

func TestNewSorterOfRowsThatAreNotValid(t *testing.T) {
	lists := [][]impl.Row{manyRows(25), make([]impl.Row, 25), sortedRows(manyRows(25)), allRows(), invalidRows()}
	for _, row := range invalidRows() {
		lists = append(lists, []impl.Row{row})
		for i := range 24 {
			rows := manyRows(24)
			rows[i] = row
			lists = append(lists, rows, rows[i:])
		}
	}
	for _, rows := range lists {
		sorter, ok := impl.NewSorter(rows)
		expectSuccess(t, "NewSorter", ok, false)
		expectSorter(t, "NewSorter", sorter, impl.Sorter{})
	}
}

// Rows that fit the grant are all read before the first is written, so they
// are one run, which is not merged.
func TestSortOfRowsThatFitTheGrant(t *testing.T) {
	expectSteps(t, "4.0.3 3.0.3 2.0.2 1.0.0", 12, []string{
		"0/////0/0/1/0",
		"1/4.0.3////0/0/1/0",
		"2/4.0.3 3.0.3////0/0/1/0",
		"3/4.0.3 3.0.3 2.0.2////0/0/1/0",
		"4/4.0.3 3.0.3 2.0.2 1.0.0////0/0/1/0",
		"4/4.0.3 3.0.3 2.0.2//1.0.0//0/0/1/1",
		"4/4.0.3 3.0.3//1.0.0 2.0.2//0/0/1/4",
		"4/4.0.3//1.0.0 2.0.2 3.0.3//0/0/1/8",
		"4///1.0.0 2.0.2 3.0.3 4.0.3//0/0/1/12",
		"4////1.0.0 2.0.2 3.0.3 4.0.3/0/0/3/12",
	})
	for grant := 8; grant <= 60; grant++ {
		for count := 1; count <= 24; count++ {
			if rows := reversed(sortedRows(manyRows(count))); costOf(rows) <= grant {
				expectSortTo(t, rows, []int{grant}, 3*count+1, costOf(rows))
			}
		}
	}
}

func TestSortOfRowsThatMissTheGrantByOne(t *testing.T) {
	expectSteps(t, "4.0.3 3.0.3 2.0.2 1.0.0", 11, []string{
		"3/4.0.3 3.0.3 2.0.2////0/0/1/0",
		"3/4.0.3 3.0.3//2.0.2//0/0/1/3",
		"4/4.0.3 3.0.3/1.0.0/2.0.2//0/0/1/3",
		"4/4.0.3/1.0.0/2.0.2 3.0.3//0/0/1/7",
		"4//1.0.0/2.0.2 3.0.3 4.0.3//0/0/1/11",
		"4/1.0.0///2.0.2 3.0.3 4.0.3/0/0/1/11",
		"4///1.0.0/2.0.2 3.0.3 4.0.3/0/0/1/12",
		"4////2.0.2 3.0.3 4.0.3|1.0.0/0/0/2/12",
		"4///1.0.0/2.0.2 3.0.3 4.0.3|1.0.0/0/1/2/13",
		"4///1.0.0 2.0.2/2.0.2 3.0.3 4.0.3|1.0.0/1/1/2/16",
		"4///1.0.0 2.0.2 3.0.3/2.0.2 3.0.3 4.0.3|1.0.0/2/1/2/20",
		"4///1.0.0 2.0.2 3.0.3 4.0.3/2.0.2 3.0.3 4.0.3|1.0.0/3/1/2/24",
		"4////1.0.0 2.0.2 3.0.3 4.0.3/0/0/3/24",
	})
}

func TestSortOfMaxRows(t *testing.T) {
	if impl.MaxRows != 24 {
		t.Error("MaxRows is not that of the document")
	}
	wide := rowsOfWidths(slices.Repeat([]int{3}, 24))
	// All rows are in one run, which takes 24 steps to read, to write and to
	// emit, and one step to end.
	expectSortTo(t, sortedRows(wide), []int{8}, 73, 96)
	expectSortTo(t, make([]impl.Row, 24), []int{60}, 73, 24)
	expectSortTo(t, repeatRow(impl.Row{Key: 9, Value: 99, Width: 3}, 24), []int{8}, 73, 96)
	// Twelve runs of two rows: 11 steps begin another run. A merge takes a step
	// for each row and one to end it. Six runs are left, then three; of these,
	// the first two are merged, and then the last one with the result.
	expectSortTo(t, reversed(sortedRows(wide)), []int{8}, 24*3+11+1+(24+6)+(24+3)+(16+1)+(24+1), 4*(24+24+24+16+24))
	for _, rows := range [][]impl.Row{manyRows(24), reversed(sortedRows(manyRows(24)))} {
		for grant := 8; grant <= 60; grant += 4 {
			expectModelSort(t, rows, []int{grant})
		}
	}
}

// Each case names the kind of step by its number in the document.
func TestEachKindOfStep(t *testing.T) {
	for _, c := range []struct {
		kind          int
		input, before string
		grant         int
		after         string
		emitted       string
	}{
		// The row meets the grant exactly, or is far below it.
		{1, "5.0.3 3.0.3", "1/5.0.3////0/0/1/7", 8, "2/5.0.3 3.0.3////0/0/1/7", ""},
		{1, "5.0.3 3.0.3", "1/5.0.3////0/0/1/7", 60, "2/5.0.3 3.0.3////0/0/1/7", ""},
		{1, "5.0.3 3.0.0", "0/////0/0/1/0", 8, "1/5.0.3////0/0/1/0", ""},
		// It is not less than the last row of Output, but less than others.
		{1, "5.0.3 3.0.3 4.0.3", "2/5.0.3//3.0.3//0/0/1/4", 8, "3/5.0.3 4.0.3//3.0.3//0/0/1/4", ""},
		// It is equal to the last row of Output.
		{1, "5.0.3 3.0.3 3.0.3", "2/5.0.3//3.0.3//0/0/1/4", 8, "3/5.0.3 3.0.3//3.0.3//0/0/1/4", ""},
		// It is less than the last row of Output.
		{1, "5.0.3 3.0.3 3.0.2", "2/5.0.3//3.0.3//0/0/1/4", 8, "3/5.0.3/3.0.2/3.0.3//0/0/1/4", ""},
		{1, "5.0.3 3.1.3 3.0.3", "2/5.0.3//3.1.3//0/0/1/4", 8, "3/5.0.3/3.0.3/3.1.3//0/0/1/4", ""},
		{1, "5.0.3 3.0.3 2.9.3", "2/5.0.3//3.0.3//0/0/1/4", 8, "3/5.0.3/2.9.3/3.0.3//0/0/1/4", ""},
		// It follows the rows that are there already.
		{1, "5.0.0 3.0.0 1.0.0 2.0.0", "3/5.0.0/1.0.0/3.0.0//0/0/1/1", 8, "4/5.0.0/1.0.0 2.0.0/3.0.0//0/0/1/1", ""},
		{1, "5.0.0 3.0.0 1.0.0 4.0.0", "3/5.0.0/1.0.0/3.0.0//0/0/1/1", 8, "4/5.0.0 4.0.0/1.0.0/3.0.0//0/0/1/1", ""},
		// Output is empty, whatever the rows of Runs are.
		{1, "5.0.0 1.0.0", "1////5.0.0/0/0/1/1", 8, "2/1.0.0///5.0.0/0/0/1/1", ""},
		// Another run begins.
		{2, "5.0.3 3.0.3", "2//3.0.3/5.0.3//0/0/1/4", 8, "2/3.0.3///5.0.3/0/0/1/4", ""},
		{2, "5.0.3 3.0.3 1.0.3", "3//3.0.3 1.0.3/5.0.3//0/0/1/4", 60, "3/3.0.3 1.0.3///5.0.3/0/0/1/4", ""},
		{2, "9.0.3 5.0.3 3.0.3", "3//3.0.3/5.0.3/9.0.3/0/0/1/8", 8, "3/3.0.3///9.0.3|5.0.3/0/0/1/8", ""},
		// The least row is in the first place, in the last, and in between.
		{3, "3.0.3 5.0.2", "2/3.0.3 5.0.2////0/0/1/7", 8, "2/5.0.2//3.0.3//0/0/1/11", ""},
		{3, "5.0.3 3.0.2", "2/5.0.3 3.0.2////0/0/1/7", 8, "2/5.0.3//3.0.2//0/0/1/10", ""},
		{3, "5.0.3 3.0.0 4.0.2", "3/5.0.3 3.0.0 4.0.2////0/0/1/7", 8, "3/5.0.3 4.0.2//3.0.0//0/0/1/8", ""},
		{3, "1.0.3 5.0.3 2.0.1 3.0.0", "4/5.0.3 2.0.1 3.0.0//1.0.3//0/0/1/7", 8, "4/5.0.3 3.0.0//1.0.3 2.0.1//0/0/1/9", ""},
		// The first of two equal rows is removed.
		{3, "1.0.0 2.0.0 1.0.0 3.0.0", "4/1.0.0 2.0.0 1.0.0 3.0.0////0/0/1/0", 8, "4/2.0.0 1.0.0 3.0.0//1.0.0//0/0/1/1", ""},
		// Nothing is deferred, and the heap becomes empty.
		{3, "5.0.1", "1/5.0.1////0/0/1/0", 8, "1///5.0.1//0/0/1/2", ""},
		// The end of reading with no run, with one and with more.
		{4, "", "0/////0/0/1/0", 8, "0/////0/0/4/0", ""},
		{4, "", "0/////0/0/1/99", 60, "0/////0/0/4/99", ""},
		{4, "5.0.3", "1///5.0.3//0/0/1/4", 8, "1////5.0.3/0/0/3/4", ""},
		{4, "5.0.3", "1////5.0.3/0/0/1/4", 8, "1////5.0.3/0/0/3/4", ""},
		{4, "5.0.3 3.0.3", "2///3.0.3/5.0.3/0/0/1/8", 8, "2////5.0.3|3.0.3/0/0/2/8", ""},
		{4, "5.0.3 3.0.3", "2////5.0.3|3.0.3/0/0/1/8", 8, "2////5.0.3|3.0.3/0/0/2/8", ""},
		{4, "5.0.3 3.0.3 1.0.3", "3///1.0.3/5.0.3|3.0.3/0/0/1/12", 60, "3////5.0.3|3.0.3|1.0.3/0/0/2/12", ""},
		// The end of a merge with one run left and with more.
		{5, "5.0.3 3.0.3", "2///3.0.3 5.0.3/5.0.3|3.0.3/1/1/2/16", 8, "2////3.0.3 5.0.3/0/0/3/16", ""},
		{5, "5.0.3 3.0.3 1.0.3", "3///3.0.3 5.0.3/5.0.3|3.0.3|1.0.3/1/1/2/20", 60, "3////1.0.3|3.0.3 5.0.3/0/0/2/20", ""},
		{5, "7.0.0 5.0.3 3.0.3 1.0.3", "4///5.0.3 7.0.0/7.0.0|5.0.3|3.0.3|1.0.3/1/1/2/18", 8, "4////3.0.3|1.0.3|5.0.3 7.0.0/0/0/2/18", ""},
		// The next row is on the left, on the right, and on both sides.
		{6, "3.0.3 5.0.2", "2////3.0.3|5.0.2/0/0/2/7", 8, "2///3.0.3/3.0.3|5.0.2/1/0/2/11", ""},
		{6, "3.0.3 5.0.2", "2////5.0.2|3.0.3/0/0/2/7", 8, "2///3.0.3/5.0.2|3.0.3/0/1/2/11", ""},
		{6, "3.0.3 3.0.3", "2////3.0.3|3.0.3/0/0/2/8", 8, "2///3.0.3/3.0.3|3.0.3/1/0/2/12", ""},
		{6, "3.0.3 3.0.2", "2////3.0.3|3.0.2/0/0/2/7", 60, "2///3.0.2/3.0.3|3.0.2/0/1/2/10", ""},
		// One run is exhausted.
		{6, "3.0.3 5.0.2", "2///3.0.3/3.0.3|5.0.2/1/0/2/11", 8, "2///3.0.3 5.0.2/3.0.3|5.0.2/1/1/2/14", ""},
		{6, "3.0.3 5.0.2", "2///3.0.3/5.0.2|3.0.3/0/1/2/11", 8, "2///3.0.3 5.0.2/5.0.2|3.0.3/1/1/2/14", ""},
		// A row is emitted, and the last one.
		{7, "3.0.3 5.0.2", "2////3.0.3 5.0.2/0/0/3/14", 8, "2////3.0.3 5.0.2/1/0/3/14", "3.0.3"},
		{7, "3.0.3 5.0.2", "2////3.0.3 5.0.2/1/0/3/14", 60, "2////3.0.3 5.0.2/2/0/4/14", "5.0.2"},
	} {
		before, after := sorterOf(t, c.input, c.before), sorterOf(t, c.input, c.after)
		expectStep(t, before, c.grant, after, parsedRows(t, c.emitted))
		expectValidSorter(t, before, true)
		expectValidSorter(t, after, true)
	}
}

// Several kinds of step apply, or would if the one before them did not.
func TestOrderOfTheKindsOfStep(t *testing.T) {
	for _, c := range []struct {
		input, before string
		grant         int
		after         string
	}{
		// Reading comes before the beginning of another run.
		{"5.0.3 3.0.3 6.0.3", "2//3.0.3/5.0.3//0/0/1/4", 8, "3/6.0.3/3.0.3/5.0.3//0/0/1/4"},
		{"5.0.3 3.0.3 2.0.3", "2//3.0.3/5.0.3//0/0/1/4", 8, "3//3.0.3 2.0.3/5.0.3//0/0/1/4"},
		// Without room for the row, the run ends.
		{"5.0.3 3.0.3 2.0.0 6.0.3", "3//3.0.3 2.0.0/5.0.3//0/0/1/4", 8, "3/3.0.3 2.0.0///5.0.3/0/0/1/4"},
		{"5.0.3 3.0.3 2.0.0 6.0.3", "3//3.0.3 2.0.0/5.0.3//0/0/1/4", 9, "4/6.0.3/3.0.3 2.0.0/5.0.3//0/0/1/4"},
		// Reading comes before writing.
		{"5.0.3 3.0.2 1.0.0", "2/5.0.3 3.0.2////0/0/1/0", 8, "3/5.0.3 3.0.2 1.0.0////0/0/1/0"},
		{"5.0.3 3.0.2 1.0.1", "2/5.0.3 3.0.2////0/0/1/0", 8, "2/5.0.3//3.0.2//0/0/1/3"},
		{"5.0.3 3.0.2 1.0.1", "2/5.0.3 3.0.2////0/0/1/0", 9, "3/5.0.3 3.0.2 1.0.1////0/0/1/0"},
		// Deferred rows take as much memory as those of the heap.
		{"5.0.3 3.0.3 2.0.0 4.0.3", "3/5.0.3/2.0.0/3.0.3//0/0/1/4", 8, "3//2.0.0/3.0.3 5.0.3//0/0/1/8"},
		{"5.0.3 3.0.3 2.0.0 4.0.3", "3/5.0.3/2.0.0/3.0.3//0/0/1/4", 9, "4/5.0.3 4.0.3/2.0.0/3.0.3//0/0/1/4"},
		// Reading comes before the end of reading.
		{"5.0.3 3.0.3", "1///5.0.3//0/0/1/4", 8, "2//3.0.3/5.0.3//0/0/1/4"},
		{"5.0.3 3.0.3", "1////5.0.3/0/0/1/4", 8, "2/3.0.3///5.0.3/0/0/1/4"},
		// Writing comes before the beginning of another run.
		{"5.0.3 3.0.3 1.0.0", "3/5.0.3/1.0.0/3.0.3//0/0/1/4", 8, "3//1.0.0/3.0.3 5.0.3//0/0/1/8"},
		// There is no row left to read, so it does not matter that one would fit.
		{"5.0.3 3.0.3", "2/5.0.3 3.0.3////0/0/1/0", 60, "2/5.0.3//3.0.3//0/0/1/4"},
		// The beginning of another run comes before the end of reading.
		{"5.0.3 3.0.3", "2//3.0.3/5.0.3//0/0/1/4", 60, "2/3.0.3///5.0.3/0/0/1/4"},
		// The grant has shrunk below what is held, so nothing is read.
		{"5.0.3 4.0.3 3.0.3 2.0.0", "3/5.0.3 4.0.3 3.0.3////0/0/1/0", 8, "3/5.0.3 4.0.3//3.0.3//0/0/1/4"},
		{"5.0.3 4.0.3 3.0.3 2.0.0", "3/5.0.3 4.0.3 3.0.3////0/0/1/0", 12, "3/5.0.3 4.0.3//3.0.3//0/0/1/4"},
		{"5.0.3 4.0.3 3.0.3 2.0.0", "3/5.0.3 4.0.3 3.0.3////0/0/1/0", 13, "4/5.0.3 4.0.3 3.0.3 2.0.0////0/0/1/0"},
	} {
		before, after := sorterOf(t, c.input, c.before), sorterOf(t, c.input, c.after)
		expectStep(t, before, c.grant, after, nil)
		expectValidSorter(t, before, true)
		expectValidSorter(t, after, true)
	}
}

func TestMergeInWhichOneRunIsExhaustedFirst(t *testing.T) {
	for _, input := range []string{"1.0.3 7.0.3 8.0.3 9.0.3", "7.0.3 8.0.3 9.0.3 1.0.3"} {
		expectSteps(t, input, 8, []string{
			"4////1.0.3|7.0.3 8.0.3 9.0.3/0/0/2/0",
			"4///1.0.3/1.0.3|7.0.3 8.0.3 9.0.3/1/0/2/4",
			"4///1.0.3 7.0.3/1.0.3|7.0.3 8.0.3 9.0.3/1/1/2/8",
			"4///1.0.3 7.0.3 8.0.3/1.0.3|7.0.3 8.0.3 9.0.3/1/2/2/12",
			"4///1.0.3 7.0.3 8.0.3 9.0.3/1.0.3|7.0.3 8.0.3 9.0.3/1/3/2/16",
			"4////1.0.3 7.0.3 8.0.3 9.0.3/0/0/3/16",
		})
		expectSteps(t, input, 60, []string{
			"4////7.0.3 8.0.3 9.0.3|1.0.3/0/0/2/0",
			"4///1.0.3/7.0.3 8.0.3 9.0.3|1.0.3/0/1/2/4",
			"4///1.0.3 7.0.3/7.0.3 8.0.3 9.0.3|1.0.3/1/1/2/8",
			"4///1.0.3 7.0.3 8.0.3/7.0.3 8.0.3 9.0.3|1.0.3/2/1/2/12",
			"4///1.0.3 7.0.3 8.0.3 9.0.3/7.0.3 8.0.3 9.0.3|1.0.3/3/1/2/16",
			"4////1.0.3 7.0.3 8.0.3 9.0.3/0/0/3/16",
		})
	}
}

// The merged run is the last one, so the run that was left over comes first.
func TestMergeOfAnOddNumberOfRuns(t *testing.T) {
	expectSteps(t, "3.0.1 2.0.2 1.0.3", 8, []string{
		"3////3.0.1|2.0.2|1.0.3/0/0/2/9",
		"3///2.0.2/3.0.1|2.0.2|1.0.3/0/1/2/12",
		"3///2.0.2 3.0.1/3.0.1|2.0.2|1.0.3/1/1/2/14",
		"3////1.0.3|2.0.2 3.0.1/0/0/2/14",
		"3///1.0.3/1.0.3|2.0.2 3.0.1/1/0/2/18",
		"3///1.0.3 2.0.2/1.0.3|2.0.2 3.0.1/1/1/2/21",
		"3///1.0.3 2.0.2 3.0.1/1.0.3|2.0.2 3.0.1/1/2/2/23",
		"3////1.0.3 2.0.2 3.0.1/0/0/3/23",
	})
	expectSteps(t, "5.0.0 4.0.0 3.0.0 2.0.0 1.0.0", 8, []string{
		"5///4.0.0 5.0.0/5.0.0|4.0.0|3.0.0|2.0.0|1.0.0/1/1/2/7",
		"5////3.0.0|2.0.0|1.0.0|4.0.0 5.0.0/0/0/2/7",
		"5///2.0.0/3.0.0|2.0.0|1.0.0|4.0.0 5.0.0/0/1/2/8",
		"5///2.0.0 3.0.0/3.0.0|2.0.0|1.0.0|4.0.0 5.0.0/1/1/2/9",
		"5////1.0.0|4.0.0 5.0.0|2.0.0 3.0.0/0/0/2/9",
		"5///1.0.0/1.0.0|4.0.0 5.0.0|2.0.0 3.0.0/1/0/2/10",
	})
}

func TestSortOfEqualRows(t *testing.T) {
	expectSteps(t, "4.4.3 4.4.3 4.4.3", 8, []string{
		"2/4.4.3 4.4.3////0/0/1/0",
		"2/4.4.3//4.4.3//0/0/1/4",
		"3/4.4.3 4.4.3//4.4.3//0/0/1/4",
	})
	// In a merge of equal runs all rows of the left one come first.
	expectSteps(t, "4.4.3 4.4.3 4.4.3", 8, []string{
		"3////4.4.3 4.4.3|4.4.3/0/0/2/0",
		"3///4.4.3/4.4.3 4.4.3|4.4.3/1/0/2/4",
		"3///4.4.3 4.4.3/4.4.3 4.4.3|4.4.3/2/0/2/8",
		"3///4.4.3 4.4.3 4.4.3/4.4.3 4.4.3|4.4.3/2/1/2/12",
		"3////4.4.3 4.4.3 4.4.3/0/0/3/12",
	})
	for _, row := range validEdgeRows() {
		for count := 1; count <= 24; count++ {
			for _, grant := range []int{8, 9, 60} {
				expectSortTo(t, repeatRow(row, count), []int{grant}, 3*count+1, count*(1+row.Width))
			}
		}
	}
}

func TestStepSorterOfTheLeastAndTheLargestGrant(t *testing.T) {
	if impl.MinGrant != 8 || impl.MaxGrant != 60 {
		t.Error("the limits of a grant are not those of the document")
	}
	for _, sorter := range validSorters(t) {
		if sorter.Phase == impl.PhaseDone {
			continue
		}
		for _, grant := range []int{8, 9, 59, 60} {
			if _, _, ok := impl.StepSorter(sorter, grant); !ok {
				t.Fatalf("StepSorter(%v, %d) fails", sorter, grant)
			}
		}
		for _, grant := range grantsOutOfRange() {
			expectNoStep(t, sorter, grant)
		}
	}
	// The largest grant has room for one row more than the largest but one.
	rows := append(slices.Repeat([]impl.Row{{Key: 9, Width: 3}}, 14), impl.Row{Width: 2}, impl.Row{Width: 0})
	before := impl.Sorter{Input: rows, Pos: 15, Heap: rows[:15], Phase: impl.PhaseRead}
	expectStep(t, before, 60, impl.Sorter{Input: rows, Pos: 16, Heap: rows, Phase: impl.PhaseRead}, nil)
	expectStep(t, before, 59, impl.Sorter{Input: rows, Pos: 15, Heap: rows[:14], Output: rows[14:15], Phase: impl.PhaseRead, Written: 3}, nil)
}

// The grant shrinks and grows while rows are read, merged and emitted.
func TestSortWhileTheGrantChanges(t *testing.T) {
	input := "6.0.3 5.0.3 4.0.3 3.0.3 2.0.3 1.0.3"
	sorter := newSorter(t, parsedRows(t, input))
	for _, c := range []struct {
		grant   int
		after   string
		emitted string
	}{
		{16, "1/6.0.3////0/0/1/0", ""},
		{16, "2/6.0.3 5.0.3////0/0/1/0", ""},
		{16, "3/6.0.3 5.0.3 4.0.3////0/0/1/0", ""},
		// The grant shrinks below what is held.
		{8, "3/6.0.3 5.0.3//4.0.3//0/0/1/4", ""},
		{8, "3/6.0.3//4.0.3 5.0.3//0/0/1/8", ""},
		{8, "4/6.0.3/3.0.3/4.0.3 5.0.3//0/0/1/8", ""},
		// It grows by too little, and then by enough.
		{11, "4//3.0.3/4.0.3 5.0.3 6.0.3//0/0/1/12", ""},
		{12, "5//3.0.3 2.0.3/4.0.3 5.0.3 6.0.3//0/0/1/12", ""},
		{11, "5/3.0.3 2.0.3///4.0.3 5.0.3 6.0.3/0/0/1/12", ""},
		{11, "5/3.0.3//2.0.3/4.0.3 5.0.3 6.0.3/0/0/1/16", ""},
		{60, "6/3.0.3/1.0.3/2.0.3/4.0.3 5.0.3 6.0.3/0/0/1/16", ""},
		{8, "6//1.0.3/2.0.3 3.0.3/4.0.3 5.0.3 6.0.3/0/0/1/20", ""},
		{60, "6/1.0.3///4.0.3 5.0.3 6.0.3|2.0.3 3.0.3/0/0/1/20", ""},
		{8, "6///1.0.3/4.0.3 5.0.3 6.0.3|2.0.3 3.0.3/0/0/1/24", ""},
		{60, "6////4.0.3 5.0.3 6.0.3|2.0.3 3.0.3|1.0.3/0/0/2/24", ""},
		{8, "6///2.0.3/4.0.3 5.0.3 6.0.3|2.0.3 3.0.3|1.0.3/0/1/2/28", ""},
		{60, "6///2.0.3 3.0.3/4.0.3 5.0.3 6.0.3|2.0.3 3.0.3|1.0.3/0/2/2/32", ""},
		{8, "6///2.0.3 3.0.3 4.0.3/4.0.3 5.0.3 6.0.3|2.0.3 3.0.3|1.0.3/1/2/2/36", ""},
		{60, "6///2.0.3 3.0.3 4.0.3 5.0.3/4.0.3 5.0.3 6.0.3|2.0.3 3.0.3|1.0.3/2/2/2/40", ""},
		{8, "6///2.0.3 3.0.3 4.0.3 5.0.3 6.0.3/4.0.3 5.0.3 6.0.3|2.0.3 3.0.3|1.0.3/3/2/2/44", ""},
		{60, "6////1.0.3|2.0.3 3.0.3 4.0.3 5.0.3 6.0.3/0/0/2/44", ""},
		{8, "6///1.0.3/1.0.3|2.0.3 3.0.3 4.0.3 5.0.3 6.0.3/1/0/2/48", ""},
		{60, "6///1.0.3 2.0.3/1.0.3|2.0.3 3.0.3 4.0.3 5.0.3 6.0.3/1/1/2/52", ""},
		{8, "6///1.0.3 2.0.3 3.0.3/1.0.3|2.0.3 3.0.3 4.0.3 5.0.3 6.0.3/1/2/2/56", ""},
		{60, "6///1.0.3 2.0.3 3.0.3 4.0.3/1.0.3|2.0.3 3.0.3 4.0.3 5.0.3 6.0.3/1/3/2/60", ""},
		{8, "6///1.0.3 2.0.3 3.0.3 4.0.3 5.0.3/1.0.3|2.0.3 3.0.3 4.0.3 5.0.3 6.0.3/1/4/2/64", ""},
		{60, "6///1.0.3 2.0.3 3.0.3 4.0.3 5.0.3 6.0.3/1.0.3|2.0.3 3.0.3 4.0.3 5.0.3 6.0.3/1/5/2/68", ""},
		{8, "6////1.0.3 2.0.3 3.0.3 4.0.3 5.0.3 6.0.3/0/0/3/68", ""},
		{60, "6////1.0.3 2.0.3 3.0.3 4.0.3 5.0.3 6.0.3/1/0/3/68", "1.0.3"},
		{8, "6////1.0.3 2.0.3 3.0.3 4.0.3 5.0.3 6.0.3/2/0/3/68", "2.0.3"},
		{60, "6////1.0.3 2.0.3 3.0.3 4.0.3 5.0.3 6.0.3/3/0/3/68", "3.0.3"},
		{8, "6////1.0.3 2.0.3 3.0.3 4.0.3 5.0.3 6.0.3/4/0/3/68", "4.0.3"},
		{60, "6////1.0.3 2.0.3 3.0.3 4.0.3 5.0.3 6.0.3/5/0/3/68", "5.0.3"},
		{8, "6////1.0.3 2.0.3 3.0.3 4.0.3 5.0.3 6.0.3/6/0/4/68", "6.0.3"},
	} {
		after := sorterOf(t, input, c.after)
		expectStep(t, sorter, c.grant, after, parsedRows(t, c.emitted))
		sorter = after
	}
	expectNoStep(t, sorter, 60)
}

// The rows that are held are written one by one until they fit. If some of
// them are deferred, one more step begins a run with them.
func TestStepsUntilARevokedGrantIsHonored(t *testing.T) {
	for _, c := range []struct {
		input, sorter string
		grant, steps  int
	}{
		{"5.0.3 4.0.3", "2/5.0.3 4.0.3////0/0/1/0", 8, 0},
		{"5.0.3 4.0.3 3.0.0", "3/5.0.3 4.0.3 3.0.0////0/0/1/0", 8, 1},
		{"5.0.3 4.0.3 3.0.3", "3/5.0.3 4.0.3 3.0.3////0/0/1/0", 11, 1},
		{"5.0.3 4.0.3 3.0.3", "3/5.0.3 4.0.3 3.0.3////0/0/1/0", 12, 0},
		{"5.0.3 4.0.3 3.0.3 2.0.3", "4/5.0.3 4.0.3 3.0.3 2.0.3////0/0/1/0", 8, 2},
		// The narrow rows are the least, so they are written first.
		{"5.0.3 4.0.3 1.0.0 1.0.0 1.0.0", "5/5.0.3 4.0.3 1.0.0 1.0.0 1.0.0////0/0/1/0", 8, 3},
		// Of a heap of one row and three deferred rows two have to be written.
		{"6.0.3 5.0.3 4.0.3 3.0.3 2.0.3", "5/6.0.3/4.0.3 3.0.3 2.0.3/5.0.3//0/0/1/4", 8, 3},
		{"6.0.3 5.0.3 4.0.3 3.0.3 2.0.3", "5/6.0.3/4.0.3 3.0.3 2.0.3/5.0.3//0/0/1/4", 12, 1},
		// Three deferred rows, of which one has to be written.
		{"5.0.3 4.0.3 3.0.3 2.0.3", "4//4.0.3 3.0.3 2.0.3/5.0.3//0/0/1/4", 8, 2},
		{"5.0.3 4.0.3 3.0.3 0.0.0 0.0.0", "5//4.0.3 3.0.3 0.0.0 0.0.0/5.0.3//0/0/1/4", 8, 3},
		// The merge and what is emitted fit every grant.
		{"5.0.3 4.0.3", "2////5.0.3|4.0.3/0/0/2/8", 8, 0},
		{"5.0.3", "1////5.0.3/0/0/3/4", 8, 0},
	} {
		sorter := sorterOf(t, c.input, c.sorter)
		expectValidSorter(t, sorter, true)
		if steps := expectHonored(t, sorter, c.grant); steps != c.steps {
			t.Errorf("%s %s fits %d after %d steps, want %d", c.input, c.sorter, c.grant, steps, c.steps)
		}
	}
}

// Every grant from the least to the largest at every step: the model is
// compared with all sorters that can be reached.
func TestEverySequenceOfGrants(t *testing.T) {
	var grants []int
	for grant := 8; grant <= 60; grant++ {
		grants = append(grants, grant)
	}
	for _, s := range []string{
		"5.0.3 3.0.3 4.0.3",
		"3.0.3 2.0.3 1.0.3 0.0.3",
		"4.0.3 4.0.3 1.0.3 4.0.3 1.0.3",
		"5.0.3 1.0.3 4.0.2 2.0.3 3.0.1 0.0.3",
	} {
		expectAllSorts(t, parsedRows(t, s), grants)
	}
}

func TestEverySequenceOfAFewGrants(t *testing.T) {
	for _, c := range []struct {
		rows   string
		length int
		grants []int
	}{
		{"1.0.0 1.0.3 2.0.1 3.5.3 3.4.2", 4, []int{8, 9}},
		{"1.1.3 2.2.3 3.3.3", 5, []int{8, 12, 60}},
		{"5.0.3 4.0.3", 6, []int{8, 11, 12, 16}},
	} {
		choices := parsedRows(t, c.rows)
		for _, places := range placesUpTo(c.length, len(choices)) {
			expectAllSorts(t, elementsAt(choices, places), c.grants)
		}
	}
	expectAllSorts(t, parsedRows(t, "8.0.3 7.0.3 6.0.3 5.0.3 4.0.3 3.0.3 2.0.3 1.0.3"), []int{8, 12, 16, 20, 60})
	expectAllSorts(t, manyRows(10), []int{8, 12, 60})
}

func TestSortOfEveryOrderOfRows(t *testing.T) {
	rows := parsedRows(t, "0.0.3 1.0.1 2.0.3 3.0.0 4.0.3 5.0.2")
	for _, order := range ordersOf(len(rows)) {
		for _, grants := range [][]int{{8}, {10}, {12, 8}} {
			expectModelSort(t, elementsAt(rows, order), grants)
		}
	}
}

func TestSortOfLongInputs(t *testing.T) {
	for i, rows := range longInputs(2000) {
		expectModelSort(t, rows, changingGrants(i))
		expectModelSort(t, rows, []int{8 + i%53})
		expectModelSort(t, reversed(sortedRows(rows)), []int{60, 60, 60, 60, 60, 8 + i%4})
	}
}

func TestSortersThatAreValid(t *testing.T) {
	for _, sorter := range validSorters(t) {
		expectValidSorter(t, sorter, true)
		if !isSorterOfTheDocument(sorter) {
			t.Fatalf("the test's own definition rejects %v", sorter)
		}
	}
}

func TestSortersThatAreNotValid(t *testing.T) {
	for _, sorter := range invalidSorters(t) {
		expectValidSorter(t, sorter, false)
		if isSorterOfTheDocument(sorter) {
			t.Fatalf("the test's own definition accepts %v", sorter)
		}
	}
}

// The sorters that differ a little from a valid one are compared with the
// conditions of the document, which are put in another way.
func TestSortersNearValidOnes(t *testing.T) {
	// How many of them are not valid, and are, in each phase.
	var counts [5][2]int
	for _, sorter := range validSorters(t) {
		if len(sorter.Input) > 8 {
			continue
		}
		for _, near := range sortersNear(sorter) {
			want := isSorterOfTheDocument(near)
			expectValidSorter(t, near, want)
			if !want {
				expectNoStep(t, near, 8)
			} else if near.Phase != impl.PhaseDone && near.Written < 1000 {
				expectSoundStep(t, near, 8)
				expectSoundStep(t, near, 60)
			}
			if near.Phase >= 1 && near.Phase <= 4 {
				if want {
					counts[near.Phase][1]++
				} else {
					counts[near.Phase][0]++
				}
			}
		}
	}
	for phase := 1; phase <= 4; phase++ {
		if counts[phase][0] < 50 || counts[phase][1] < 5 {
			t.Errorf("in phase %d there are only %v sorters", phase, counts[phase])
		}
	}
}

func TestStepSorterOfSortersThatAreNotValid(t *testing.T) {
	for _, sorter := range append(invalidSorters(t), impl.Sorter{}) {
		for _, grant := range append(grantsOutOfRange(), 8, 20, 60) {
			expectNoStep(t, sorter, grant)
		}
	}
}

func TestStepSorterInPhaseDone(t *testing.T) {
	seen := 0
	for _, sorter := range validSorters(t) {
		if sorter.Phase != impl.PhaseDone {
			continue
		}
		seen++
		for grant := 7; grant <= 61; grant++ {
			expectNoStep(t, sorter, grant)
		}
	}
	if seen < 5 {
		t.Errorf("only %d sorters are done", seen)
	}
}

func TestWrittenIsAddedToAnyNumber(t *testing.T) {
	for _, written := range []int{0, 1, 999999999, 1000000000, 1 << 40, math.MaxInt - 4} {
		sorter := sorterOf(t, "5.0.3", "1/5.0.3////0/0/1/0")
		sorter.Written = written
		after := sorterOf(t, "5.0.3", "1///5.0.3//0/0/1/0")
		after.Written = written + 4
		expectStep(t, sorter, 8, after, nil)
		sorter = sorterOf(t, "5.0.3 4.0.2", "2////5.0.3|4.0.2/0/0/2/0")
		sorter.Written = written
		after = sorterOf(t, "5.0.3 4.0.2", "2///4.0.2/5.0.3|4.0.2/0/1/2/0")
		after.Written = written + 3
		expectStep(t, sorter, 8, after, nil)
	}
}

func TestSorterMemory(t *testing.T) {
	for _, c := range []struct {
		sorter string
		want   int
	}{
		{"0/////0/0/1/0", 0},
		{"2/5.0.3 4.0.1////0/0/1/0", 6},
		{"2//5.0.3 4.0.1///0/0/1/0", 6},
		{"2/5.0.3/4.0.1/9.0.3/9.0.3|9.0.3/0/0/1/0", 6},
		// The positions do not count while rows are read.
		{"2/5.0.3/4.0.1//9.0.3|9.0.3/1/1/1/0", 6},
		{"2/5.0.3/4.0.1//9.0.3|9.0.3/-1/-1/1/0", 6},
		{"2/5.0.3/4.0.1//9.0.3|9.0.3/0/0/2/0", 8},
		{"2/5.0.3/4.0.1/9.0.2/1.0.0 2.0.1|3.0.2 4.0.3|9.0.3/0/0/2/0", 4},
		{"2////1.0.0 2.0.1|3.0.2 4.0.3|9.0.3/0/1/2/0", 5},
		{"2////1.0.0 2.0.1|3.0.2 4.0.3|9.0.3/1/0/2/0", 5},
		{"2////1.0.0 2.0.1|3.0.2 4.0.3|9.0.3/1/1/2/0", 6},
		// A position at the end of its run or beyond it.
		{"2////1.0.0 2.0.1|3.0.2 4.0.3|9.0.3/2/1/2/0", 4},
		{"2////1.0.0 2.0.1|3.0.2 4.0.3|9.0.3/1/2/2/0", 2},
		{"2////1.0.0 2.0.1|3.0.2 4.0.3|9.0.3/3/0/2/0", 3},
		{"2////1.0.0 2.0.1|3.0.2 4.0.3|9.0.3/0/3/2/0", 1},
		{"2////1.0.0 2.0.1|3.0.2 4.0.3|9.0.3/2/2/2/0", 0},
		{"2////1.0.0 2.0.1|3.0.2 4.0.3|9.0.3/9223372036854775807/9223372036854775807/2/0", 0},
		// A negative position, while the other one is in its run.
		{"2////1.0.0 2.0.1|3.0.2 4.0.3|9.0.3/-1/0/2/0", 0},
		{"2////1.0.0 2.0.1|3.0.2 4.0.3|9.0.3/0/-1/2/0", 0},
		{"2////1.0.0 2.0.1|3.0.2 4.0.3|9.0.3/-9223372036854775808/1/2/0", 0},
		{"2////1.0.0 2.0.1|3.0.2 4.0.3|9.0.3/1/-9223372036854775808/2/0", 0},
		{"2////1.0.0 2.0.1|3.0.2 4.0.3|9.0.3/-1/-1/2/0", 0},
		// No runs, one run, and runs without rows.
		{"2/////0/0/2/0", 0},
		{"2/5.0.3/4.0.1/9.0.2//0/0/2/0", 0},
		{"2////1.0.0 2.0.1/0/0/2/0", 1},
		{"2////1.0.0 2.0.1/1/0/2/0", 2},
		{"2////1.0.0 2.0.1/1/7/2/0", 2},
		{"2////1.0.0 2.0.1/2/0/2/0", 0},
		{"2////1.0.0 2.0.1/0/-1/2/0", 0},
		{"2////|3.0.2/0/0/2/0", 3},
		{"2////3.0.2|/0/0/2/0", 3},
		{"2////|/0/0/2/0", 0},
		// Only row LeftPos of run 0 counts while rows are emitted.
		{"2/5.0.3/4.0.1/9.0.2/1.0.0 2.0.1/0/0/3/0", 1},
		{"2////1.0.0 2.0.1/1/0/3/0", 2},
		{"2////1.0.0 2.0.1/2/0/3/0", 0},
		{"2////1.0.0 2.0.1/3/0/3/0", 0},
		{"2////1.0.0 2.0.1/9223372036854775807/0/3/0", 0},
		{"2////1.0.0 2.0.1/-1/0/3/0", 0},
		{"2////1.0.0 2.0.1/-9223372036854775808/0/3/0", 0},
		{"2////1.0.0 2.0.1|3.0.2/1/0/3/0", 2},
		{"2////1.0.0 2.0.1|3.0.2/1/-1/3/0", 2},
		{"2////1.0.0 2.0.1|3.0.2/1/1/3/0", 2},
		{"2/////0/0/3/0", 0},
		{"2////|3.0.2/0/0/3/0", 0},
		// Nothing is held in any other phase.
		{"2/5.0.3/4.0.1/9.0.2/1.0.0 2.0.1|3.0.2/0/0/4/0", 0},
		{"2/5.0.3/4.0.1/9.0.2/1.0.0 2.0.1|3.0.2/0/0/0/0", 0},
		{"2/5.0.3/4.0.1/9.0.2/1.0.0 2.0.1|3.0.2/0/0/5/0", 0},
		{"2/5.0.3/4.0.1/9.0.2/1.0.0 2.0.1|3.0.2/0/0/-1/0", 0},
		{"2/5.0.3/4.0.1/9.0.2/1.0.0 2.0.1|3.0.2/0/0/9223372036854775807/0", 0},
	} {
		sorter := sorterOf(t, "9.9.3 9.9.3", c.sorter)
		expectMemory(t, sorter, c.want)
		// Pos and Written have no effect.
		for _, n := range boundaryNumbers() {
			sorter.Pos, sorter.Written = n, n
			expectMemory(t, sorter, c.want)
		}
	}
}

func TestSorterMemoryOfRowsThatAreNotValid(t *testing.T) {
	one := []impl.Row{{Width: 3}}
	for _, row := range invalidRows() {
		rows := []impl.Row{row}
		expectMemory(t, impl.Sorter{Heap: rows, Deferred: one, Phase: impl.PhaseRead}, 4)
		expectMemory(t, impl.Sorter{Heap: one, Deferred: rows, Phase: impl.PhaseRead}, 4)
		expectMemory(t, impl.Sorter{Runs: []impl.Run{{Rows: rows}, {Rows: one}}, Phase: impl.PhaseMerge}, 4)
		expectMemory(t, impl.Sorter{Runs: []impl.Run{{Rows: one}, {Rows: rows}}, Phase: impl.PhaseMerge}, 4)
		expectMemory(t, impl.Sorter{Runs: []impl.Run{{Rows: rows}}, Phase: impl.PhaseEmit}, 0)
	}
	// More rows than an input has.
	all := allRows()
	expectMemory(t, impl.Sorter{Heap: all, Deferred: all, Phase: impl.PhaseRead}, 2*costOf(all))
	expectMemory(t, impl.Sorter{Runs: []impl.Run{{Rows: all}, {Rows: all}}, LeftPos: 3998, RightPos: 3999, Phase: impl.PhaseMerge}, 7)
	expectMemory(t, impl.Sorter{Runs: []impl.Run{{Rows: all}}, LeftPos: 3998, Phase: impl.PhaseEmit}, 3)
}

func TestEqualSortersOfEqualSorters(t *testing.T) {
	for _, sorter := range append(differentSorters(t), append(validSorters(t), invalidSorters(t)...)...) {
		for _, same := range []impl.Sorter{sorter, copySorter(sorter), slackSorter(sorter), sharingSorter(sorter)} {
			expectEqualSorters(t, sorter, same, true)
			expectEqualSorters(t, same, sorter, true)
		}
	}
	// Nil and empty slices are equal, also in a run.
	empty := impl.Sorter{Input: []impl.Row{}, Heap: []impl.Row{}, Deferred: []impl.Row{}, Output: []impl.Row{}, Runs: []impl.Run{}}
	expectEqualSorters(t, empty, impl.Sorter{}, true)
	expectEqualSorters(t, impl.Sorter{}, empty, true)
	expectEqualSorters(t, impl.Sorter{Runs: []impl.Run{{}}}, impl.Sorter{Runs: []impl.Run{{Rows: []impl.Row{}}}}, true)
	expectEqualSorters(t, impl.Sorter{Runs: []impl.Run{{Rows: []impl.Row{}}}}, impl.Sorter{Runs: []impl.Run{{}}}, true)
}

func TestEqualSortersOfDifferentSorters(t *testing.T) {
	sorters := differentSorters(t)
	for i, a := range sorters {
		for j, b := range sorters {
			expectEqualSorters(t, a, b, i == j)
		}
	}
	for _, sorter := range validSorters(t) {
		if len(sorter.Input) > 8 {
			continue
		}
		for _, near := range sortersNear(sorter) {
			want := sameSorter(near, sorter)
			expectEqualSorters(t, sorter, near, want)
			expectEqualSorters(t, near, sorter, want)
		}
	}
}

func TestSorterFunctionsLeaveTheirArguments(t *testing.T) {
	for _, given := range slices.Concat(validSorters(t), invalidSorters(t), differentSorters(t)) {
		for _, sorter := range []impl.Sorter{slackSorter(given), sharingSorter(given), aliasedSorter(given)} {
			before := dumpSorter(sorter)
			for range 2 {
				impl.SorterMemory(sorter)
				impl.IsValidSorter(sorter)
				impl.EqualSorters(sorter, sorter)
				impl.NewSorter(sorter.Input)
				for _, grant := range []int{7, 8, 12, 60, 61} {
					impl.StepSorter(sorter, grant)
				}
			}
			if !slices.Equal(dumpSorter(sorter), before) {
				t.Fatalf("%v or its capacity is modified", given)
			}
		}
	}
}

func TestSorterFunctionsReturnNewMemory(t *testing.T) {
	for _, given := range slices.Concat(validSorters(t), invalidSorters(t), differentSorters(t)) {
		for _, sorter := range []impl.Sorter{given, slackSorter(given), sharingSorter(given), aliasedSorter(given)} {
			arguments := sorterPointersOf(sorter)
			created, _ := impl.NewSorter(sorter.Input)
			expectApart(t, sorterPointersOf(created), arguments)
			for _, grant := range []int{7, 8, 12, 60, 61} {
				next, emitted, _ := impl.StepSorter(sorter, grant)
				expectApart(t, append(sorterPointersOf(next), pointersTo(emitted)...), arguments)
			}
		}
	}
}

// A result may be changed without an effect on the sorter that was passed in,
// on another part of the result, or on another answer.
func TestSortersOfAResultCanBeChanged(t *testing.T) {
	for _, given := range slices.Concat(validSorters(t), invalidSorters(t)) {
		sorter := slackSorter(given)
		before := dumpSorter(sorter)
		for _, grant := range []int{7, 8, 60} {
			want, wantEmitted, _ := impl.StepSorter(given, grant)
			want = copySorter(want)
			first, emitted, _ := impl.StepSorter(sorter, grant)
			second, _, _ := impl.StepSorter(sorter, grant)
			overwrite(emitted)
			expectPartsOfSorter(t, first, want)
			if !slices.Equal(dumpSorter(sorter), before) {
				t.Fatalf("%v changes with a result", given)
			}
			expectSorter(t, "another answer", second, want)
			third, emitted, _ := impl.StepSorter(sorter, grant)
			expectSorter(t, "a later answer", third, want)
			if !slices.Equal(emitted, wantEmitted) {
				t.Fatalf("the rows that %v emits change with a result", given)
			}
		}
	}
}

func TestSorterOfNewSorterCanBeChanged(t *testing.T) {
	for count := 1; count <= 24; count++ {
		rows := manyRows(count)
		want := impl.Sorter{Input: manyRows(count), Phase: impl.PhaseRead}
		first, second := newSorter(t, rows), newSorter(t, rows)
		overwrite(first.Input)
		if !slices.Equal(rows, manyRows(count)) {
			t.Fatal("the rows change with a sorter")
		}
		expectSorter(t, "another sorter", second, want)
		overwrite(rows)
		expectSorter(t, "a sorter of rows that change", second, want)
	}
}

// A sorter that was passed in may be changed without an effect on a result.
func TestSorterThatWasPassedInCanBeChanged(t *testing.T) {
	for _, given := range slices.Concat(validSorters(t), invalidSorters(t)) {
		for _, grant := range []int{7, 8, 60} {
			want, wantEmitted, _ := impl.StepSorter(given, grant)
			sorter := slackSorter(given)
			got, emitted, _ := impl.StepSorter(sorter, grant)
			overwriteSorter(sorter)
			expectSorter(t, "StepSorter", got, want)
			if !slices.Equal(emitted, wantEmitted) {
				t.Fatalf("the rows that %v emits change with it", given)
			}
		}
	}
}

func newSorter(t *testing.T, rows []impl.Row) impl.Sorter {
	t.Helper()
	sorter, ok := impl.NewSorter(rows)
	if !ok {
		t.Fatalf("NewSorter(%v) fails", rows)
	}
	return sorter
}

func expectSorter(t *testing.T, what string, got impl.Sorter, want impl.Sorter) {
	t.Helper()
	if !sameSorter(got, want) {
		t.Fatalf("%s = %v, want %v", what, got, want)
	}
}

func expectValidSorter(t *testing.T, sorter impl.Sorter, want bool) {
	t.Helper()
	if got := impl.IsValidSorter(sorter); got != want {
		t.Fatalf("IsValidSorter(%+v) = %v", sorter, got)
	}
}

func expectMemory(t *testing.T, sorter impl.Sorter, want int) {
	t.Helper()
	if got := impl.SorterMemory(sorter); got != want {
		t.Fatalf("SorterMemory(%+v) = %d, want %d", sorter, got, want)
	}
}

func expectEqualSorters(t *testing.T, a impl.Sorter, b impl.Sorter, want bool) {
	t.Helper()
	if got := impl.EqualSorters(a, b); got != want {
		t.Fatalf("EqualSorters(%v, %v) = %v", a, b, got)
	}
}

// expectStep also looks whether the step keeps to the memory and whether the
// new sorter is valid.
func expectStep(t *testing.T, sorter impl.Sorter, grant int, want impl.Sorter, wantEmitted []impl.Row) {
	t.Helper()
	next, emitted, ok := impl.StepSorter(sorter, grant)
	if !sameSorter(next, want) || !slices.Equal(emitted, wantEmitted) || !ok {
		t.Fatalf("StepSorter(%v, %d) = %v, %v, %v, want %v, %v", sorter, grant, next, emitted, ok, want, wantEmitted)
	}
	if memory := impl.SorterMemory(next); memory > grant && memory > impl.SorterMemory(sorter) {
		t.Fatalf("after StepSorter(%v, %d) the sorter holds %d", sorter, grant, memory)
	}
	expectValidSorter(t, next, true)
}

// expectSteps performs the steps from the first sorter to the last, all with
// one grant. Between them nothing is emitted but what the positions show.
func expectSteps(t *testing.T, input string, grant int, formats []string) {
	t.Helper()
	for i, format := range formats[:len(formats)-1] {
		sorter := sorterOf(t, input, format)
		var emitted []impl.Row
		if sorter.Phase == impl.PhaseEmit {
			emitted = sorter.Runs[0].Rows[sorter.LeftPos : sorter.LeftPos+1]
		}
		expectStep(t, sorter, grant, sorterOf(t, input, formats[i+1]), emitted)
	}
}

func expectNoStep(t *testing.T, sorter impl.Sorter, grant int) {
	t.Helper()
	got, emitted, ok := impl.StepSorter(sorter, grant)
	if !sameSorter(got, sorter) || len(emitted) > 0 || ok {
		t.Fatalf("StepSorter(%v, %d) = %v, %v, %v", sorter, grant, got, emitted, ok)
	}
}

// expectSoundStep performs a step of a valid sorter that no steps may have led
// to. It keeps the rows, stays valid, and keeps to the memory.
func expectSoundStep(t *testing.T, sorter impl.Sorter, grant int) {
	t.Helper()
	next, emitted, ok := impl.StepSorter(sorter, grant)
	if !ok || sameSorter(next, sorter) || !slices.Equal(next.Input, sorter.Input) {
		t.Fatalf("StepSorter(%v, %d) = %v, %v, %v", sorter, grant, next, emitted, ok)
	}
	expectStep(t, sorter, grant, next, emitted)
	if (len(emitted) == 1) != (sorter.Phase == impl.PhaseEmit) || len(emitted) > 1 {
		t.Fatalf("StepSorter(%v, %d) emits %v", sorter, grant, emitted)
	}
	if sorter.Phase == impl.PhaseEmit {
		return
	}
	// What is not written again takes no step back.
	for sorter = next; sorter.Phase != impl.PhaseEmit && sorter.Phase != impl.PhaseDone; sorter = next {
		next, emitted, ok = impl.StepSorter(sorter, grant)
		if !ok || len(emitted) > 0 {
			t.Fatalf("StepSorter(%v, %d) = %v, %v, %v", sorter, grant, next, emitted, ok)
		}
	}
	if got := rowsOfRuns(sorter.Runs); !slices.Equal(got, sortedRows(sorter.Input)) {
		t.Fatalf("the last run of %v is %v", sorter.Input, got)
	}
}

// expectHonored steps with a smaller grant and returns after how many steps
// the sorter fits it. These are at most one for each row that it holds and one
// more, and none of them reads a row.
func expectHonored(t *testing.T, sorter impl.Sorter, grant int) int {
	t.Helper()
	first, steps := sorter, 0
	for impl.SorterMemory(sorter) > grant {
		next, _, ok := impl.StepSorter(sorter, grant)
		if !ok || next.Pos != sorter.Pos {
			t.Fatalf("StepSorter(%v, %d) = %v, %v", sorter, grant, next, ok)
		}
		sorter = next
		steps++
		if steps > len(first.Heap)+len(first.Deferred)+1 {
			t.Fatalf("%v does not fit %d after %d steps", first, grant, steps)
		}
	}
	return steps
}

// expectSortTo sorts the rows with the grants in turn.
func expectSortTo(t *testing.T, rows []impl.Row, grants []int, wantSteps int, wantWritten int) {
	t.Helper()
	steps, written := expectModelSort(t, rows, grants)
	if steps != wantSteps || written != wantWritten {
		t.Fatalf("the sort of %v with %v takes %d steps and writes %d, want %d and %d", rows, grants, steps, written, wantSteps, wantWritten)
	}
}

// expectModelSort compares each step of a sort with the model, and what is
// emitted with the sorted rows. It returns the number of steps and what was
// written.
func expectModelSort(t *testing.T, rows []impl.Row, grants []int) (int, int) {
	t.Helper()
	sorter, model := newSorter(t, rows), newSortModel(rows)
	var all []impl.Row
	steps := 0
	for model.phase != impl.PhaseDone {
		expectSorter(t, "the sorter", sorter, model.sorter())
		expectMemory(t, sorter, model.memory())
		grant := grants[steps%len(grants)]
		emitted := model.step(grant)
		expectStep(t, sorter, grant, model.sorter(), emitted)
		if later := grants[(steps+1)%len(grants)]; later < impl.SorterMemory(sorter) && steps%3 == 0 {
			expectHonored(t, sorter, later)
		}
		sorter, _, _ = impl.StepSorter(sorter, grant)
		all = append(all, emitted...)
		steps++
	}
	if !slices.Equal(all, sortedRows(rows)) {
		t.Fatalf("the sort of %v emits %v", rows, all)
	}
	expectNoStep(t, sorter, 60)
	return steps, sorter.Written
}

// expectAllSorts performs every sequence of steps that these grants can lead
// to. Every sorter that is reached is looked at once.
func expectAllSorts(t *testing.T, rows []impl.Row, grants []int) {
	t.Helper()
	seen := map[string]bool{}
	var visit func(sorter impl.Sorter, model sortModel)
	visit = func(sorter impl.Sorter, model sortModel) {
		key := fmt.Sprint(sorter)
		if seen[key] {
			return
		}
		seen[key] = true
		expectSorter(t, "the sorter", sorter, model.sorter())
		expectMemory(t, sorter, model.memory())
		if model.phase == impl.PhaseDone {
			expectNoStep(t, sorter, grants[0])
			return
		}
		for _, grant := range grants {
			after := model.clone()
			emitted := after.step(grant)
			expectStep(t, sorter, grant, after.sorter(), emitted)
			if grant < model.memory() {
				expectHonored(t, sorter, grant)
			}
			next, _, _ := impl.StepSorter(sorter, grant)
			visit(next, after)
		}
	}
	visit(newSorter(t, rows), newSortModel(rows))
}

// expectPartsOfSorter overwrites the slices of a sorter one by one and looks
// whether another of them changes.
func expectPartsOfSorter(t *testing.T, sorter impl.Sorter, want impl.Sorter) {
	t.Helper()
	lists, wanted := listsOfSorter(&sorter), listsOfSorter(&want)
	for i := range lists {
		_ = append(*lists[i], impl.Row{Key: 77}, impl.Row{Key: 77})
		overwrite(*lists[i])
		*lists[i] = slices.Clone(*wanted[i])
		expectSorter(t, "the rest of a result", sorter, want)
	}
	_ = append(sorter.Runs, impl.Run{}, impl.Run{})
	clear(sorter.Runs)
	sorter.Runs = want.Runs
	expectSorter(t, "the rest of a result", sorter, want)
}

// sortModel sorts by keeping for each row of the input the place where it is,
// as simulatedRuns does it, and by sorting the rows of two runs for a merge.
type sortModel struct {
	rows    []impl.Row
	places  []int
	run     []impl.Row
	runs    [][]impl.Row
	taken   int // rows merged, or rows emitted
	phase   int
	written int
}

func newSortModel(rows []impl.Row) sortModel {
	return sortModel{rows: rows, places: make([]int, len(rows)), phase: impl.PhaseRead}
}

func (m sortModel) clone() sortModel {
	m.places, m.run, m.runs = slices.Clone(m.places), slices.Clone(m.run), slices.Clone(m.runs)
	return m
}

func (m sortModel) rowsIn(place int) []impl.Row {
	return elementsAt(m.rows, indicesOf(m.places, place))
}

// mergeEntry is a row of a merge and whether it is one of the left run.
type mergeEntry struct {
	row    impl.Row
	isLeft bool
}

// merge returns the merge of the first two runs.
func (m sortModel) merge() []mergeEntry {
	var entries []mergeEntry
	for i, run := range m.runs[:2] {
		for _, row := range run {
			entries = append(entries, mergeEntry{row, i == 0})
		}
	}
	slices.SortStableFunc(entries, func(a, b mergeEntry) int { return cmp.Compare(rankOf(a.row), rankOf(b.row)) })
	return entries
}

func (m sortModel) sorter() impl.Sorter {
	sorter := impl.Sorter{Input: m.rows, Phase: m.phase, Written: m.written}
	sorter.Pos = len(m.rows) - len(m.rowsIn(inInput))
	sorter.Heap, sorter.Deferred, sorter.Output = m.rowsIn(inCurrentSet), m.rowsIn(inDeferredSet), slices.Clone(m.run)
	for _, run := range m.runs {
		sorter.Runs = append(sorter.Runs, impl.Run{Rows: run})
	}
	if m.phase != impl.PhaseMerge {
		sorter.LeftPos = m.taken
		return sorter
	}
	for _, entry := range m.merge()[:m.taken] {
		sorter.Output = append(sorter.Output, entry.row)
		if entry.isLeft {
			sorter.LeftPos++
		} else {
			sorter.RightPos++
		}
	}
	return sorter
}

func (m sortModel) memory() int {
	switch m.phase {
	case impl.PhaseRead:
		return costOf(m.rowsIn(inCurrentSet)) + costOf(m.rowsIn(inDeferredSet))
	case impl.PhaseMerge:
		next := map[bool]int{}
		for _, entry := range slices.Backward(m.merge()[m.taken:]) {
			next[entry.isLeft] = 1 + entry.row.Width
		}
		return next[true] + next[false]
	case impl.PhaseEmit:
		return 1 + m.runs[0][m.taken].Width
	}
	return 0
}

func (m *sortModel) step(grant int) []impl.Row {
	switch m.phase {
	case impl.PhaseRead:
		m.stepOfReading(grant)
	case impl.PhaseMerge:
		merge := m.merge()
		if m.taken < len(merge) {
			m.written += 1 + merge[m.taken].row.Width
			m.taken++
			return nil
		}
		merged := make([]impl.Row, len(merge))
		for i, entry := range merge {
			merged[i] = entry.row
		}
		m.runs = append(slices.Clone(m.runs[2:]), merged)
		m.endPhase()
	case impl.PhaseEmit:
		row := m.runs[0][m.taken]
		m.taken++
		if m.taken == len(m.rows) {
			m.phase = impl.PhaseDone
		}
		return []impl.Row{row}
	}
	return nil
}

func (m *sortModel) stepOfReading(grant int) {
	input, current, deferred := indicesOf(m.places, inInput), indicesOf(m.places, inCurrentSet), indicesOf(m.places, inDeferredSet)
	switch {
	case len(input) > 0 && m.memory()+1+m.rows[input[0]].Width <= grant:
		m.places[input[0]] = inCurrentSet
		if len(m.run) > 0 && rankOf(m.rows[input[0]]) < rankOf(m.run[len(m.run)-1]) {
			m.places[input[0]] = inDeferredSet
		}
	case len(current) == 0 && len(deferred) > 0:
		m.runs, m.run = append(m.runs, m.run), nil
		for _, i := range deferred {
			m.places[i] = inCurrentSet
		}
	case len(current) > 0:
		least := slices.MinFunc(current, func(i, j int) int { return cmp.Compare(rankOf(m.rows[i]), rankOf(m.rows[j])) })
		m.run = append(m.run, m.rows[least])
		m.written += 1 + m.rows[least].Width
		m.places[least] = inRun
	default:
		if len(m.run) > 0 {
			m.runs, m.run = append(m.runs, m.run), nil
		}
		m.endPhase()
	}
}

func (m *sortModel) endPhase() {
	m.taken = 0
	m.phase = []int{impl.PhaseDone, impl.PhaseEmit, impl.PhaseMerge}[min(len(m.runs), 2)]
}

// isSorterOfTheDocument reports whether all conditions of chapter 13 hold. It
// sorts where the document merges, and compares sorted rows where the document
// compares multisets.
func isSorterOfTheDocument(s impl.Sorter) bool {
	inRuns := rowsOfRuns(s.Runs)
	held := slices.Concat(inRuns, s.Output, s.Heap, s.Deferred)
	// Rows that are not in the input cannot be anywhere, so all are valid.
	isInvalid := func(row impl.Row) bool {
		return row.Key < 0 || row.Key > 9 || row.Value < 0 || row.Value > 99 || row.Width < 0 || row.Width > 3
	}
	if len(s.Input) > 24 || slices.ContainsFunc(slices.Concat(s.Input, held), isInvalid) {
		return false
	}
	isUnsorted := func(rows []impl.Row) bool { return !slices.Equal(rows, sortedRows(rows)) }
	isBadRun := func(run impl.Run) bool { return len(run.Rows) == 0 || isUnsorted(run.Rows) }
	if slices.ContainsFunc(s.Runs, isBadRun) || isUnsorted(s.Output) || s.Written < 0 || s.Pos < 0 || s.Pos > len(s.Input) {
		return false
	}
	if len(s.Heap) > 0 && len(s.Output) > 0 && rankOf(sortedRows(s.Heap)[0]) < rankOf(s.Output[len(s.Output)-1]) {
		return false
	}
	if s.Phase == impl.PhaseRead {
		return s.LeftPos == 0 && s.RightPos == 0 && (len(s.Output) > 0 || len(s.Deferred) == 0) &&
			costOf(s.Heap)+costOf(s.Deferred) <= 60 && slices.Equal(sortedRows(held), sortedRows(s.Input[:s.Pos]))
	}
	if s.Pos != len(s.Input) || len(s.Heap)+len(s.Deferred) > 0 || !slices.Equal(sortedRows(inRuns), sortedRows(s.Input)) {
		return false
	}
	switch s.Phase {
	case impl.PhaseMerge:
		if len(s.Runs) < 2 || s.LeftPos < 0 || s.RightPos < 0 || s.LeftPos > len(s.Runs[0].Rows) || s.RightPos > len(s.Runs[1].Rows) {
			return false
		}
		left, right := s.Runs[0].Rows, s.Runs[1].Rows
		consumed := sortedRows(slices.Concat(left[:s.LeftPos], right[:s.RightPos]))
		whole := sortedRows(slices.Concat(left, right))
		return slices.Equal(s.Output, consumed) && slices.Equal(s.Output, whole[:s.LeftPos+s.RightPos])
	case impl.PhaseEmit:
		return len(s.Runs) == 1 && s.LeftPos >= 0 && s.LeftPos < len(s.Input) && s.RightPos == 0 && len(s.Output) == 0
	case impl.PhaseDone:
		return len(s.Runs) <= 1 && s.LeftPos == len(s.Input) && s.RightPos == 0 && len(s.Output) == 0
	}
	return false
}

// changingGrants returns grants that stay for a few steps and then change.
func changingGrants(seed int) []int {
	state := 1 + seed
	random := func(limit int) int {
		state = state * 48271 % 2147483647
		return state / 64 % limit
	}
	var grants []int
	for range 20 {
		grant := 8 + random(1+random(53))
		grants = append(grants, slices.Repeat([]int{grant}, 1+random(9))...)
	}
	return grants
}

// sorterOf reads the fields of a sorter after Input, separated by slashes.
func sorterOf(t *testing.T, input string, format string) impl.Sorter {
	t.Helper()
	fields := strings.Split(format, "/")
	if len(fields) != 9 {
		t.Fatalf("%q has %d fields", format, len(fields))
	}
	number := func(field string) int {
		n, err := strconv.Atoi(field)
		if err != nil {
			t.Fatal(err)
		}
		return n
	}
	return impl.Sorter{
		Input:    parsedRows(t, input),
		Pos:      number(fields[0]),
		Heap:     parsedRows(t, fields[1]),
		Deferred: parsedRows(t, fields[2]),
		Output:   parsedRows(t, fields[3]),
		Runs:     parsedRuns(t, fields[4]),
		LeftPos:  number(fields[5]),
		RightPos: number(fields[6]),
		Phase:    number(fields[7]),
		Written:  number(fields[8]),
	}
}

// listsOfSorter returns pointers to all lists of rows.
func listsOfSorter(sorter *impl.Sorter) []*[]impl.Row {
	lists := []*[]impl.Row{&sorter.Input, &sorter.Heap, &sorter.Deferred, &sorter.Output}
	for i := range sorter.Runs {
		lists = append(lists, &sorter.Runs[i].Rows)
	}
	return lists
}

func sorterPointersOf(sorter impl.Sorter) []any {
	pointers := pointersTo(sorter.Runs)
	for _, list := range listsOfSorter(&sorter) {
		pointers = append(pointers, pointersTo(*list)...)
	}
	return pointers
}

// dumpSorter returns all numbers of the sorter, with those in unused capacity.
func dumpSorter(sorter impl.Sorter) []int {
	numbers := []int{sorter.Pos, sorter.LeftPos, sorter.RightPos, sorter.Phase, sorter.Written}
	for _, list := range listsOfSorter(&sorter)[:4] {
		numbers = append(numbers, len(*list))
		for _, row := range (*list)[:cap(*list)] {
			numbers = append(numbers, row.Key, row.Value, row.Width)
		}
	}
	return append(numbers, dumpRuns(sorter.Runs)...)
}

// sameSorter takes a nil slice and an empty slice for the same.
func sameSorter(a impl.Sorter, b impl.Sorter) bool {
	if a.Pos != b.Pos || a.LeftPos != b.LeftPos || a.RightPos != b.RightPos || a.Phase != b.Phase || a.Written != b.Written {
		return false
	}
	return slices.Equal(a.Input, b.Input) && slices.Equal(a.Heap, b.Heap) && slices.Equal(a.Deferred, b.Deferred) &&
		slices.Equal(a.Output, b.Output) && equalRuns(a.Runs, b.Runs)
}

// copySorter returns the sorter in new memory without unused capacity.
func copySorter(sorter impl.Sorter) impl.Sorter {
	sorter.Runs = append(make([]impl.Run, 0, len(sorter.Runs)), sorter.Runs...)
	for _, list := range listsOfSorter(&sorter) {
		*list = append(make([]impl.Row, 0, len(*list)), *list...)
	}
	return sorter
}

// slackSorter returns the sorter in new memory with two unused elements behind
// every slice, which a function could write to.
func slackSorter(sorter impl.Sorter) impl.Sorter {
	sorter.Runs = slackRuns(sorter.Runs)
	for _, list := range listsOfSorter(&sorter) {
		*list = slackRows(*list)
	}
	return sorter
}

// sharingSorter returns the sorter with all its rows in one slice, so that
// every list goes on into the next one.
func sharingSorter(sorter impl.Sorter) impl.Sorter {
	sorter = copySorter(sorter)
	var rows []impl.Row
	for _, list := range listsOfSorter(&sorter) {
		rows = append(rows, *list...)
	}
	for _, list := range listsOfSorter(&sorter) {
		*list, rows = rows[:len(*list)], rows[len(*list):]
	}
	return sorter
}

// aliasedSorter returns the sorter with each list in the memory of an earlier
// one, where that begins with the same rows.
func aliasedSorter(sorter impl.Sorter) impl.Sorter {
	sorter = slackSorter(sorter)
	lists := listsOfSorter(&sorter)
	for i, list := range lists {
		for _, earlier := range lists[:i] {
			if len(*earlier) >= len(*list) && slices.Equal((*earlier)[:len(*list)], *list) {
				*list = (*earlier)[:len(*list)]
				break
			}
		}
	}
	return sorter
}

func overwriteSorter(sorter impl.Sorter) {
	for _, list := range listsOfSorter(&sorter) {
		overwrite(*list)
	}
	clear(sorter.Runs[:cap(sorter.Runs)])
}

// validSorters returns sorters of every phase, with every number that may be
// at a limit at one of its limits, and some that no steps lead to.
func validSorters(t *testing.T) []impl.Sorter {
	t.Helper()
	var sorters []impl.Sorter
	for _, c := range [][]string{
		{"", "0/////0/0/1/0", "0/////0/0/1/9223372036854775807", "0/////0/0/4/0", "0/////0/0/4/7"},
		{"5.0.3", "0/////0/0/1/0", "1/5.0.3////0/0/1/0", "1///5.0.3//0/0/1/4", "1////5.0.3/0/0/1/4", "1////5.0.3/0/0/3/4", "1////5.0.3/1/0/4/4"},
		{"9.0.3 8.0.2 5.0.3 3.0.3 4.0.3 1.0.3 7.0.0",
			"6/5.0.3 4.0.3/1.0.3/3.0.3/8.0.2 9.0.3/0/0/1/20",
			"6/5.0.3 4.0.3 3.0.3 9.0.3 8.0.2 1.0.3////0/0/1/0",
			"6/9.0.3/1.0.3 3.0.3/4.0.3 5.0.3/8.0.2/0/0/1/20",
			"6//1.0.3 3.0.3 4.0.3/5.0.3 9.0.3/8.0.2/0/0/1/20",
			"6///1.0.3 3.0.3 4.0.3 5.0.3 8.0.2 9.0.3//0/0/1/20",
			"6////9.0.3|8.0.2|5.0.3|3.0.3|4.0.3|1.0.3/0/0/1/20",
			"0/////0/0/1/20",
			"7////8.0.2 9.0.3|3.0.3 4.0.3 5.0.3|1.0.3 7.0.0/0/0/2/24",
			"7///3.0.3 4.0.3/8.0.2 9.0.3|3.0.3 4.0.3 5.0.3|1.0.3 7.0.0/0/2/2/24",
			"7///1.0.3 7.0.0 8.0.2 9.0.3/1.0.3 7.0.0|8.0.2 9.0.3|3.0.3 4.0.3 5.0.3/2/2/2/24",
			"7///1.0.3 3.0.3/1.0.3 7.0.0 8.0.2 9.0.3|3.0.3 4.0.3 5.0.3/1/1/2/24",
			"7////1.0.3 3.0.3 4.0.3 5.0.3 7.0.0 8.0.2 9.0.3/0/0/3/24",
			"7////1.0.3 3.0.3 4.0.3 5.0.3 7.0.0 8.0.2 9.0.3/3/0/3/24",
			"7////1.0.3 3.0.3 4.0.3 5.0.3 7.0.0 8.0.2 9.0.3/6/0/3/0",
			"7////1.0.3 3.0.3 4.0.3 5.0.3 7.0.0 8.0.2 9.0.3/7/0/4/24",
		},
		{"4.4.1 4.4.1 4.4.1 2.2.2 2.2.2",
			"5/4.4.1 4.4.1/2.2.2 2.2.2/4.4.1//0/0/1/2",
			"4/4.4.1//2.2.2 4.4.1/4.4.1/0/0/1/2",
			"5///2.2.2 2.2.2 4.4.1/2.2.2 4.4.1|2.2.2 4.4.1 4.4.1/2/1/2/20",
			// MergeSorted would take the row of the left run.
			"5///2.2.2/2.2.2 4.4.1|2.2.2 4.4.1 4.4.1/0/1/2/20",
			"5///2.2.2 2.2.2 4.4.1 4.4.1/2.2.2 4.4.1|2.2.2 4.4.1 4.4.1/1/3/2/20",
			"5////2.2.2 2.2.2 4.4.1 4.4.1 4.4.1/4/0/3/20",
			"5////2.2.2 2.2.2 4.4.1 4.4.1 4.4.1/5/0/4/20",
		},
	} {
		for _, format := range c[1:] {
			sorters = append(sorters, sorterOf(t, c[0], format))
		}
	}
	full := sortedRows(manyRows(24))
	wide := repeatRow(impl.Row{Key: 5, Width: 3}, 15)
	return append(sorters,
		// A memory of MaxGrant.
		sorterThatHolds(wide, nil),
		sorterThatHolds(nil, wide),
		sorterThatHolds(wide[:8], wide[8:]),
		// MaxRows rows.
		impl.Sorter{Input: manyRows(24), Phase: impl.PhaseRead, Written: math.MaxInt},
		impl.Sorter{Input: manyRows(24), Pos: 24, Output: full, Phase: impl.PhaseRead},
		impl.Sorter{Input: manyRows(24), Pos: 24, Runs: []impl.Run{{Rows: full[:7]}, {Rows: full[7:]}}, Phase: impl.PhaseMerge},
		impl.Sorter{Input: manyRows(24), Pos: 24, Runs: []impl.Run{{Rows: full}}, LeftPos: 23, Phase: impl.PhaseEmit},
		impl.Sorter{Input: manyRows(24), Pos: 24, Runs: []impl.Run{{Rows: full}}, LeftPos: 24, Phase: impl.PhaseDone},
	)
}

// sorterThatHolds returns a sorter that has read these rows after another one,
// which is the first of the run.
func sorterThatHolds(heap []impl.Row, deferred []impl.Row) impl.Sorter {
	output := []impl.Row{{}}
	input := slices.Concat(output, heap, deferred)
	return impl.Sorter{Input: input, Pos: len(input), Heap: heap, Deferred: deferred, Output: output, Phase: impl.PhaseRead, Written: 1}
}

// invalidSorters returns sorters of every phase that break one condition each.
func invalidSorters(t *testing.T) []impl.Sorter {
	t.Helper()
	sorters := []impl.Sorter{{}}
	for _, c := range slices.Concat(badReadings(), badMerges(), badEnds()) {
		for _, format := range c[1:] {
			sorters = append(sorters, sorterOf(t, c[0], format))
		}
	}
	for _, phase := range []int{math.MinInt, -1, 0, 5, 6, math.MaxInt} {
		for _, sorter := range validSorters(t) {
			sorter.Phase = phase
			sorters = append(sorters, sorter)
		}
	}
	// Rows of a run that has none, while there are no rows at all.
	sorters = append(sorters,
		impl.Sorter{Runs: []impl.Run{{}}, Phase: impl.PhaseRead},
		impl.Sorter{Runs: []impl.Run{{}, {}}, Phase: impl.PhaseMerge},
		impl.Sorter{Runs: []impl.Run{{}}, Phase: impl.PhaseEmit},
		impl.Sorter{Runs: []impl.Run{{}}, Phase: impl.PhaseDone},
	)
	// A memory of one more than MaxGrant.
	wide := repeatRow(impl.Row{Key: 5, Width: 3}, 15)
	wideAndNarrow := append(slices.Clone(wide), impl.Row{Key: 5})
	sorters = append(sorters,
		sorterThatHolds(wideAndNarrow, nil),
		sorterThatHolds(nil, wideAndNarrow),
		sorterThatHolds(wide[:8], wideAndNarrow[8:]),
		sorterThatHolds(wideAndNarrow[8:], wide[:8]),
	)
	for _, row := range invalidRows() {
		sorters = append(sorters, sortersOfInput([]impl.Row{row, row})...)
		sorters = append(sorters, sortersOfInput([]impl.Row{row})...)
	}
	return append(sorters, sortersOfInput(sortedRows(manyRows(25)))...)
}

// sortersOfInput returns sorters of every phase that are valid if these rows,
// which must be in order, are.
func sortersOfInput(rows []impl.Row) []impl.Sorter {
	count := len(rows)
	return []impl.Sorter{
		{Input: rows, Phase: impl.PhaseRead},
		{Input: rows, Pos: 1, Heap: rows[:1], Phase: impl.PhaseRead},
		{Input: rows, Pos: count, Output: rows, Phase: impl.PhaseRead},
		{Input: rows, Pos: count, Runs: []impl.Run{{Rows: rows[:1]}, {Rows: rows[1:]}}, Phase: impl.PhaseMerge},
		{Input: rows, Pos: count, Output: rows, Runs: []impl.Run{{Rows: rows[:1]}, {Rows: rows[1:]}}, LeftPos: 1, RightPos: count - 1, Phase: impl.PhaseMerge},
		{Input: rows, Pos: count, Runs: []impl.Run{{Rows: rows}}, Phase: impl.PhaseEmit},
		{Input: rows, Pos: count, Runs: []impl.Run{{Rows: rows}}, LeftPos: count, Phase: impl.PhaseDone},
	}
}

// badReadings, badMerges and badEnds return inputs, each with the formats of
// sorters that are not valid.
func badReadings() [][]string {
	return [][]string{
		{"",
			"-1/////0/0/1/0", "1/////0/0/1/0", "9223372036854775807/////0/0/1/0", "-9223372036854775808/////0/0/1/0",
			"0/////0/0/1/-1", "0/////0/0/1/-9223372036854775808",
			"0/////1/0/1/0", "0/////-1/0/1/0", "0/////0/1/1/0", "0/////0/-1/1/0",
			"0/5.0.3////0/0/1/0", "0///5.0.3//0/0/1/0", "0////5.0.3/0/0/1/0", "0//5.0.3/5.0.3//0/0/1/0",
		},
		{"9.0.3 8.0.2 5.0.3 3.0.3 4.0.3 1.0.3 7.0.0",
			"-1/////0/0/1/20",
			"8/5.0.3 4.0.3 7.0.0/1.0.3/3.0.3/8.0.2 9.0.3/0/0/1/20",
			"6/5.0.3 4.0.3/1.0.3/3.0.3/8.0.2 9.0.3/0/0/1/-1",
			"6/5.0.3 4.0.3/1.0.3/3.0.3/8.0.2 9.0.3/1/0/1/20",
			"6/5.0.3 4.0.3/1.0.3/3.0.3/8.0.2 9.0.3/-1/0/1/20",
			"6/5.0.3 4.0.3/1.0.3/3.0.3/8.0.2 9.0.3/0/1/1/20",
			"6/5.0.3 4.0.3/1.0.3/3.0.3/8.0.2 9.0.3/0/-1/1/20",
			// One row more or less was read.
			"5/5.0.3 4.0.3/1.0.3/3.0.3/8.0.2 9.0.3/0/0/1/20",
			"7/5.0.3 4.0.3/1.0.3/3.0.3/8.0.2 9.0.3/0/0/1/20",
			// A row is missing.
			"6/5.0.3/1.0.3/3.0.3/8.0.2 9.0.3/0/0/1/20",
			"6/5.0.3 4.0.3//3.0.3/8.0.2 9.0.3/0/0/1/20",
			"6/5.0.3 4.0.3 1.0.3///8.0.2 9.0.3/0/0/1/20",
			"6/5.0.3 4.0.3/1.0.3/3.0.3/9.0.3/0/0/1/20",
			"6/5.0.3 4.0.3/1.0.3/3.0.3//0/0/1/20",
			// A row is there twice, in one list or in two.
			"6/5.0.3 4.0.3 4.0.3/1.0.3/3.0.3/8.0.2 9.0.3/0/0/1/20",
			"6/5.0.3 4.0.3/1.0.3 1.0.3/3.0.3/8.0.2 9.0.3/0/0/1/20",
			"6/5.0.3 4.0.3/1.0.3/3.0.3 3.0.3/8.0.2 9.0.3/0/0/1/20",
			"6/5.0.3 4.0.3/1.0.3/3.0.3/8.0.2 9.0.3 9.0.3/0/0/1/20",
			"6/5.0.3 4.0.3/1.0.3/1.0.3 3.0.3/8.0.2 9.0.3/0/0/1/20",
			// A row is there in place of another.
			"6/5.0.3 4.0.2/1.0.3/3.0.3/8.0.2 9.0.3/0/0/1/20",
			"6/5.0.3 4.0.3/1.0.2/3.0.3/8.0.2 9.0.3/0/0/1/20",
			"6/5.0.3 4.0.3/1.0.3/3.0.2/8.0.2 9.0.3/0/0/1/20",
			"6/5.0.3 4.0.3/1.0.3/3.0.3/8.0.1 9.0.3/0/0/1/20",
			"6/5.0.3 7.0.0/1.0.3/3.0.3/8.0.2 9.0.3/0/0/1/20",
			"6/5.0.3 5.0.3/1.0.3/3.0.3/8.0.2 9.0.3/0/0/1/20",
			// Output is not sorted.
			"6/9.0.3/1.0.3/5.0.3 3.0.3 4.0.3/8.0.2/0/0/1/20",
			"6//1.0.3/4.0.3 3.0.3/5.0.3 8.0.2 9.0.3/0/0/1/20",
			// A row of the heap is less than the last row of Output.
			"6/5.0.3 3.0.3/1.0.3/4.0.3/8.0.2 9.0.3/0/0/1/20",
			"6/3.0.3 5.0.3/1.0.3/4.0.3/8.0.2 9.0.3/0/0/1/20",
			"6/4.0.3/1.0.3/3.0.3 5.0.3/8.0.2 9.0.3/0/0/1/20",
			// Rows are deferred, but Output is empty.
			"6/5.0.3 4.0.3 3.0.3/1.0.3//8.0.2 9.0.3/0/0/1/20",
			"6//5.0.3 4.0.3 3.0.3 1.0.3//8.0.2 9.0.3/0/0/1/20",
			// A run is not sorted, or empty.
			"6/5.0.3 4.0.3/1.0.3/3.0.3/9.0.3 8.0.2/0/0/1/20",
			"6/5.0.3 4.0.3/1.0.3/3.0.3/8.0.2 9.0.3|/0/0/1/20",
			"6/5.0.3 4.0.3/1.0.3/3.0.3/|8.0.2 9.0.3/0/0/1/20",
			"6/5.0.3 4.0.3/1.0.3/3.0.3/8.0.2||9.0.3/0/0/1/20",
		},
		// The row of the heap is less in one number alone.
		{"4.4.1 4.4.0", "2/4.4.0//4.4.1//0/0/1/2"},
		{"4.4.1 4.3.1", "2/4.3.1//4.4.1//0/0/1/2"},
		{"4.4.1 3.4.1", "2/3.4.1//4.4.1//0/0/1/2"},
	}
}

func badMerges() [][]string {
	return [][]string{
		// No runs, or one.
		{"", "0/////0/0/2/0"},
		{"5.0.3", "1////5.0.3/0/0/2/4", "1///5.0.3/5.0.3/1/0/2/4"},
		{"9.0.3 8.0.2 5.0.3 3.0.3 4.0.3",
			"5////3.0.3 4.0.3 5.0.3 8.0.2 9.0.3/0/0/2/30",
			"5///3.0.3/3.0.3 4.0.3 5.0.3 8.0.2 9.0.3/1/0/2/30",
			"-1///3.0.3/8.0.2 9.0.3|3.0.3 5.0.3|4.0.3/0/1/2/30",
			"4///3.0.3/8.0.2 9.0.3|3.0.3 5.0.3|4.0.3/0/1/2/30",
			"6///3.0.3/8.0.2 9.0.3|3.0.3 5.0.3|4.0.3/0/1/2/30",
			"5///3.0.3/8.0.2 9.0.3|3.0.3 5.0.3|4.0.3/0/1/2/-1",
			// Rows are held.
			"5/5.0.3//3.0.3/8.0.2 9.0.3|3.0.3 5.0.3|4.0.3/0/1/2/30",
			"5//4.0.3/3.0.3/8.0.2 9.0.3|3.0.3 5.0.3|4.0.3/0/1/2/30",
			"5/4.0.3//3.0.3/8.0.2 9.0.3|3.0.3 5.0.3/0/1/2/30",
			"5//4.0.3/3.0.3/8.0.2 9.0.3|3.0.3 5.0.3/0/1/2/30",
			// A row is missing, or there twice, or in place of another.
			"5///3.0.3/8.0.2 9.0.3|3.0.3 5.0.3/0/1/2/30",
			"5///3.0.3/8.0.2|3.0.3 5.0.3|4.0.3/0/1/2/30",
			"5///3.0.3/8.0.2 9.0.3|3.0.3 5.0.3|4.0.3|4.0.3/0/1/2/30",
			"5///3.0.3/8.0.2 9.0.3|3.0.3 5.0.3|4.0.3 5.0.3/0/1/2/30",
			"5///3.0.3/8.0.2 9.0.3|3.0.3 5.0.3|4.0.2/0/1/2/30",
			"5///3.0.3/8.0.2 9.0.3|3.0.3 5.0.3|5.0.3/0/1/2/30",
			// A run is not sorted, or empty.
			"5////9.0.3 8.0.2|3.0.3 5.0.3|4.0.3/0/0/2/30",
			"5////8.0.2|5.0.3 3.0.3|4.0.3 9.0.3/0/0/2/30",
			"5////8.0.2|5.0.3|9.0.3 3.0.3 4.0.3/0/0/2/30",
			"5////|8.0.2 9.0.3|3.0.3 5.0.3|4.0.3/0/0/2/30",
			"5////8.0.2 9.0.3||3.0.3 5.0.3|4.0.3/0/0/2/30",
			"5///3.0.3/8.0.2 9.0.3|3.0.3 5.0.3|4.0.3|/0/1/2/30",
			"5////3.0.3 4.0.3 5.0.3 8.0.2 9.0.3|/0/0/2/30",
			// A position is not in its run.
			"5///3.0.3/8.0.2 9.0.3|3.0.3 5.0.3|4.0.3/-1/1/2/30",
			"5////8.0.2 9.0.3|3.0.3 5.0.3|4.0.3/-1/0/2/30",
			"5////8.0.2 9.0.3|3.0.3 5.0.3|4.0.3/-1/1/2/30",
			"5////8.0.2 9.0.3|3.0.3 5.0.3|4.0.3/0/-1/2/30",
			"5///8.0.2/8.0.2 9.0.3|3.0.3 5.0.3|4.0.3/1/-1/2/30",
			"5////8.0.2 9.0.3|3.0.3 5.0.3|4.0.3/-9223372036854775808/0/2/30",
			"5////8.0.2 9.0.3|3.0.3 5.0.3|4.0.3/0/-9223372036854775808/2/30",
			"5////8.0.2 9.0.3|3.0.3 5.0.3|4.0.3/-9223372036854775808/-9223372036854775808/2/30",
			"5///3.0.3 5.0.3 8.0.2 9.0.3/8.0.2 9.0.3|3.0.3 5.0.3|4.0.3/3/2/2/30",
			"5///3.0.3 5.0.3 8.0.2 9.0.3/8.0.2 9.0.3|3.0.3 5.0.3|4.0.3/3/1/2/30",
			"5///3.0.3 5.0.3/8.0.2 9.0.3|3.0.3 5.0.3|4.0.3/0/3/2/30",
			"5///3.0.3 4.0.3 5.0.3/8.0.2 9.0.3|3.0.3 5.0.3|4.0.3/0/3/2/30",
			"5///3.0.3/8.0.2 9.0.3|3.0.3 5.0.3|4.0.3/9223372036854775807/1/2/30",
			"5///3.0.3/8.0.2 9.0.3|3.0.3 5.0.3|4.0.3/0/9223372036854775807/2/30",
			"5///3.0.3/8.0.2 9.0.3|3.0.3 5.0.3|4.0.3/9223372036854775807/9223372036854775807/2/30",
			// Output is not sorted.
			"5///5.0.3 3.0.3/8.0.2 9.0.3|3.0.3 5.0.3|4.0.3/0/2/2/30",
			// It has too few or too many rows, or others.
			"5////8.0.2 9.0.3|3.0.3 5.0.3|4.0.3/0/1/2/30",
			"5///3.0.3/8.0.2 9.0.3|3.0.3 5.0.3|4.0.3/0/0/2/30",
			"5///3.0.3/8.0.2 9.0.3|3.0.3 5.0.3|4.0.3/0/2/2/30",
			"5///3.0.3 5.0.3/8.0.2 9.0.3|3.0.3 5.0.3|4.0.3/0/1/2/30",
			"5///5.0.3/8.0.2 9.0.3|3.0.3 5.0.3|4.0.3/0/1/2/30",
			"5///4.0.3/8.0.2 9.0.3|3.0.3 5.0.3|4.0.3/0/1/2/30",
			"5///3.0.2/8.0.2 9.0.3|3.0.3 5.0.3|4.0.3/0/1/2/30",
			"5///3.0.3 4.0.3/8.0.2 9.0.3|3.0.3 5.0.3|4.0.3/0/2/2/30",
			// It is the beginning of the merge, but not what was consumed.
			"5///3.0.3/8.0.2 9.0.3|3.0.3 5.0.3|4.0.3/1/0/2/30",
			"5///3.0.3 5.0.3/8.0.2 9.0.3|3.0.3 5.0.3|4.0.3/1/1/2/30",
			"5///3.0.3 5.0.3 8.0.2/8.0.2 9.0.3|3.0.3 5.0.3|4.0.3/2/1/2/30",
			// It is what was consumed, but not the beginning of the merge.
			"5///8.0.2/8.0.2 9.0.3|3.0.3 5.0.3|4.0.3/1/0/2/30",
			"5///8.0.2 9.0.3/8.0.2 9.0.3|3.0.3 5.0.3|4.0.3/2/0/2/30",
			"5///3.0.3 8.0.2/8.0.2 9.0.3|3.0.3 5.0.3|4.0.3/1/1/2/30",
			"5///3.0.3 8.0.2 9.0.3/8.0.2 9.0.3|3.0.3 5.0.3|4.0.3/2/1/2/30",
		},
	}
}

func badEnds() [][]string {
	return [][]string{
		{"",
			// No rows are emitted, and those that are done are none.
			"0/////0/0/3/0", "1/////0/0/4/0", "-1/////0/0/4/0", "0/////1/0/4/0", "0/////-1/0/4/0",
			"0/////0/1/4/0", "0/////0/-1/4/0", "0/////0/0/4/-1",
			"0/5.0.3////0/0/4/0", "0//5.0.3///0/0/4/0", "0///5.0.3//0/0/4/0", "0////5.0.3/0/0/4/0", "0////5.0.3/0/0/3/0",
		},
		{"3.0.3 1.0.2 2.0.0",
			"-1////1.0.2 2.0.0 3.0.3/1/0/3/8", "2////1.0.2 2.0.0 3.0.3/1/0/3/8", "4////1.0.2 2.0.0 3.0.3/1/0/3/8",
			"3////1.0.2 2.0.0 3.0.3/1/0/3/-1", "3////1.0.2 2.0.0 3.0.3/1/0/3/-9223372036854775808",
			"3/3.0.3///1.0.2 2.0.0 3.0.3/1/0/3/8", "3//3.0.3//1.0.2 2.0.0 3.0.3/1/0/3/8", "3///1.0.2/1.0.2 2.0.0 3.0.3/1/0/3/8",
			"3/3.0.3///1.0.2 2.0.0/1/0/3/8", "3//3.0.3//1.0.2 2.0.0/1/0/3/8", "3///3.0.3/1.0.2 2.0.0/1/0/3/8",
			"3////1.0.2 3.0.3/1/0/3/8", "3////1.0.2 2.0.0 3.0.3 3.0.3/1/0/3/8", "3////1.0.2 1.0.2 3.0.3/1/0/3/8", "3////1.0.1 2.0.0 3.0.3/1/0/3/8",
			"3////3.0.3 1.0.2 2.0.0/1/0/3/8",
			// No runs, two and three.
			"3/////1/0/3/8", "3////1.0.2 2.0.0|3.0.3/1/0/3/8", "3////1.0.2|2.0.0|3.0.3/0/0/3/8", "3////1.0.2 2.0.0 3.0.3|/1/0/3/8", "3////|1.0.2 2.0.0 3.0.3/1/0/3/8",
			// All rows have been emitted.
			"3////1.0.2 2.0.0 3.0.3/3/0/3/8", "3////1.0.2 2.0.0 3.0.3/4/0/3/8", "3////1.0.2 2.0.0 3.0.3/9223372036854775807/0/3/8",
			"3////1.0.2 2.0.0 3.0.3/-1/0/3/8", "3////1.0.2 2.0.0 3.0.3/-9223372036854775808/0/3/8",
			"3////1.0.2 2.0.0 3.0.3/1/1/3/8", "3////1.0.2 2.0.0 3.0.3/1/-1/3/8",
		},
		{"3.0.3 1.0.2 2.0.0",
			"-1////1.0.2 2.0.0 3.0.3/3/0/4/8", "2////1.0.2 2.0.0 3.0.3/3/0/4/8", "4////1.0.2 2.0.0 3.0.3/3/0/4/8",
			"3////1.0.2 2.0.0 3.0.3/3/0/4/-1", "3////1.0.2 2.0.0 3.0.3/3/0/4/-9223372036854775808",
			"3/3.0.3///1.0.2 2.0.0 3.0.3/3/0/4/8", "3//3.0.3//1.0.2 2.0.0 3.0.3/3/0/4/8", "3///1.0.2/1.0.2 2.0.0 3.0.3/3/0/4/8",
			"3/3.0.3///1.0.2 2.0.0/3/0/4/8", "3//3.0.3//1.0.2 2.0.0/3/0/4/8", "3///3.0.3/1.0.2 2.0.0/3/0/4/8",
			"3////1.0.2 3.0.3/3/0/4/8", "3////1.0.2 2.0.0 3.0.3 3.0.3/3/0/4/8", "3////1.0.2 1.0.2 3.0.3/3/0/4/8", "3////1.0.1 2.0.0 3.0.3/3/0/4/8",
			"3////3.0.3 1.0.2 2.0.0/3/0/4/8",
			"3/////3/0/4/8", "3////1.0.2 2.0.0|3.0.3/3/0/4/8", "3////1.0.2|2.0.0|3.0.3/3/0/4/8", "3////1.0.2 2.0.0 3.0.3|/3/0/4/8", "3////|1.0.2 2.0.0 3.0.3/3/0/4/8",
			// Rows have not been emitted yet.
			"3////1.0.2 2.0.0 3.0.3/2/0/4/8", "3////1.0.2 2.0.0 3.0.3/0/0/4/8", "3////1.0.2 2.0.0 3.0.3/-1/0/4/8", "3////1.0.2 2.0.0 3.0.3/-9223372036854775808/0/4/8",
			"3////1.0.2 2.0.0 3.0.3/4/0/4/8", "3////1.0.2 2.0.0 3.0.3/9223372036854775807/0/4/8",
			"3////1.0.2 2.0.0 3.0.3/3/1/4/8", "3////1.0.2 2.0.0 3.0.3/3/-1/4/8",
		},
	}
}

// differentSorters returns sorters of which no two are equal.
func differentSorters(t *testing.T) []impl.Sorter {
	t.Helper()
	formats := []string{
		"0/////0/0/0/0",
		"1/////0/0/0/0", "-1/////0/0/0/0", "9223372036854775807/////0/0/0/0",
		"0/////1/0/0/0", "0/////-1/0/0/0", "0/////9223372036854775807/0/0/0",
		"0/////0/1/0/0", "0/////0/-1/0/0", "0/////0/9223372036854775807/0/0",
		"0/////0/0/1/0", "0/////0/0/-1/0", "0/////0/0/9223372036854775807/0",
		"0/////0/0/0/1", "0/////0/0/0/-1", "0/////0/0/0/9223372036854775807",
		"1/////1/1/1/1", "0/1.1.1/1.1.1/1.1.1/1.1.1/0/0/0/0",
	}
	lists := []string{"0.0.0", "1.0.0", "0.1.0", "0.0.1", "0.0.0 0.0.0", "0.0.0 1.0.0", "1.0.0 0.0.0", "0.0.0 0.0.1", "0.0.0 1.0.0 0.0.0"}
	for _, rows := range lists {
		formats = append(formats, "0/"+rows+"////0/0/0/0", "0//"+rows+"///0/0/0/0", "0///"+rows+"//0/0/0/0", "0////"+rows+"/0/0/0/0")
	}
	for _, runs := range []string{"|", "||", "0.0.0|", "|0.0.0", "0.0.0|0.0.0", "0.0.0|1.0.0", "1.0.0|0.0.0", "0.0.0 1.0.0|0.0.0", "0.0.0|1.0.0 0.0.0", "0.0.0|1.0.0|0.0.0"} {
		formats = append(formats, "0////"+runs+"/0/0/0/0")
	}
	sorters := []impl.Sorter{{Runs: []impl.Run{{}}}}
	for _, format := range formats {
		sorters = append(sorters, sorterOf(t, "", format))
	}
	for _, rows := range lists {
		sorters = append(sorters, sorterOf(t, rows, "0/////0/0/0/0"))
	}
	return sorters
}

// sortersNear returns sorters that differ from this one in one number, in one
// row or run, or in the place of one.
func sortersNear(sorter impl.Sorter) []impl.Sorter {
	var near []impl.Sorter
	change := func(edit func(s *impl.Sorter)) {
		changed := copySorter(sorter)
		edit(&changed)
		near = append(near, changed)
	}
	for _, n := range []int{math.MinInt, -1, 0, 1, 2, 3, 4, 5, len(sorter.Input) - 1, len(sorter.Input), len(sorter.Input) + 1, math.MaxInt} {
		change(func(s *impl.Sorter) { s.Pos = n })
		change(func(s *impl.Sorter) { s.LeftPos = n })
		change(func(s *impl.Sorter) { s.RightPos = n })
		change(func(s *impl.Sorter) { s.Phase = n })
		change(func(s *impl.Sorter) { s.Written = n })
	}
	count := len(listsOfSorter(&sorter))
	for list := range count {
		length := len(*listsOfSorter(&sorter)[list])
		edit := func(edit func(rows []impl.Row) []impl.Row) {
			change(func(s *impl.Sorter) { rows := listsOfSorter(s)[list]; *rows = edit(*rows) })
		}
		edit(func(rows []impl.Row) []impl.Row { return nil })
		edit(func(rows []impl.Row) []impl.Row { return append(rows, impl.Row{}) })
		edit(func(rows []impl.Row) []impl.Row { return append(rows, impl.Row{Key: 9, Value: 99, Width: 3}) })
		for i := range length {
			edit(func(rows []impl.Row) []impl.Row { return slices.Delete(rows, i, i+1) })
			edit(func(rows []impl.Row) []impl.Row { return slices.Insert(rows, i, rows[i]) })
			edit(func(rows []impl.Row) []impl.Row { rows[i].Key++; return rows })
			edit(func(rows []impl.Row) []impl.Row { rows[i].Value--; return rows })
			edit(func(rows []impl.Row) []impl.Row { rows[i].Width = 3 - rows[i].Width; return rows })
			for j := range i {
				edit(func(rows []impl.Row) []impl.Row { rows[i], rows[j] = rows[j], rows[i]; return rows })
			}
			for other := range count {
				// The row moves to the end of another list, or to its place.
				change(func(s *impl.Sorter) { moveRow(listsOfSorter(s)[list], i, listsOfSorter(s)[other]) })
				change(func(s *impl.Sorter) {
					moveRow(listsOfSorter(s)[list], i, listsOfSorter(s)[other])
					*listsOfSorter(s)[other] = sortedRows(*listsOfSorter(s)[other])
				})
			}
		}
	}
	for i := range sorter.Runs {
		change(func(s *impl.Sorter) { s.Runs = slices.Delete(s.Runs, i, i+1) })
		change(func(s *impl.Sorter) { s.Runs = slices.Insert(s.Runs, i, impl.Run{}) })
		change(func(s *impl.Sorter) { s.Runs[i], s.Runs[0] = s.Runs[0], s.Runs[i] })
		for place := range len(sorter.Runs[i].Rows) {
			change(func(s *impl.Sorter) {
				rows := s.Runs[i].Rows
				s.Runs[i].Rows = rows[:place:place]
				s.Runs = slices.Insert(s.Runs, i+1, impl.Run{Rows: rows[place:]})
			})
		}
	}
	return near
}

// moveRow moves a row to the end of another list, or of its own.
func moveRow(from *[]impl.Row, i int, to *[]impl.Row) {
	row := (*from)[i]
	*from = slices.Delete(*from, i, i+1)
	*to = append(*to, row)
}
