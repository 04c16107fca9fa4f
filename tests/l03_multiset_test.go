package tests

import (
	"math"
	"slices"
	"testing"

	"loop.example/g01920/impl"
)

func TestMultisetOfOrdinaryRows(t *testing.T) {
	rows := parsedRows(t, "2.1.0 1.5.0 2.1.0 1.4.3")
	expectSorted(t, rows, parsedRows(t, "1.4.3 1.5.0 2.1.0 2.1.0"))
	expectDistinct(t, rows, parsedRows(t, "1.4.3 1.5.0 2.1.0"))
	if impl.IsSorted(rows) || !impl.IsSorted(impl.SortRows(rows)) {
		t.Error("IsSorted")
	}
	other := parsedRows(t, "1.4.3 9.99.3 2.1.0 1.4.3")
	expectDifference(t, rows, other, parsedRows(t, "1.5.0 2.1.0"))
	expectDifference(t, other, rows, parsedRows(t, "1.4.3 9.99.3"))
	if impl.EqualBags(rows, other) || !impl.EqualBags(rows, parsedRows(t, "2.1.0 1.4.3 1.5.0 2.1.0")) {
		t.Error("EqualBags")
	}
}

func TestBagDifferenceExampleOfTheDocument(t *testing.T) {
	a := parsedRows(t, "1.1.0 1.1.0 2.2.0")
	b := parsedRows(t, "1.1.0")
	expectDifference(t, a, b, parsedRows(t, "1.1.0 2.2.0"))
	expectDifference(t, b, a, nil)
}

func TestRowThatOccursTwice(t *testing.T) {
	once := parsedRows(t, "1.1.0 2.2.0")
	twice := parsedRows(t, "1.1.0 2.2.0 1.1.0")
	otherTwice := parsedRows(t, "1.1.0 2.2.0 2.2.0")
	row := impl.Row{Key: 1, Value: 1}
	expectSorted(t, twice, parsedRows(t, "1.1.0 1.1.0 2.2.0"))
	expectDistinct(t, twice, once)
	expectCount(t, once, row, 1)
	expectCount(t, twice, row, 2)
	if !impl.IsSorted(impl.SortRows(twice)) || impl.IsSorted(twice) {
		t.Error("IsSorted")
	}
	if impl.EqualBags(once, twice) || impl.EqualBags(twice, once) || impl.EqualBags(twice, otherTwice) {
		t.Error("EqualBags takes a row that occurs twice for one that occurs once")
	}
	if !impl.EqualBags(twice, parsedRows(t, "1.1.0 1.1.0 2.2.0")) {
		t.Error("EqualBags rejects the same rows in another order")
	}
	expectDifference(t, twice, once, parsedRows(t, "1.1.0"))
	expectDifference(t, once, twice, nil)
	expectDifference(t, twice, otherTwice, parsedRows(t, "1.1.0"))
	expectDifference(t, otherTwice, twice, parsedRows(t, "2.2.0"))
	expectDifference(t, twice, nil, parsedRows(t, "1.1.0 1.1.0 2.2.0"))
}

func TestMultisetOfNoRows(t *testing.T) {
	rows := parsedRows(t, "2.1.0 1.5.0 2.1.0")
	var zero impl.Row
	for _, none := range [][]impl.Row{nil, {}, rows[:0]} {
		expectSorted(t, none, nil)
		expectDistinct(t, none, nil)
		expectCount(t, none, zero, 0)
		expectDifference(t, none, rows, nil)
		expectDifference(t, rows, none, parsedRows(t, "1.5.0 2.1.0 2.1.0"))
		if !impl.IsSorted(none) {
			t.Error("no rows are not sorted")
		}
		if impl.EqualBags(none, rows) || impl.EqualBags(rows, none) || impl.EqualBags(none, []impl.Row{zero}) {
			t.Error("no rows equal some rows")
		}
		for _, otherNone := range [][]impl.Row{nil, {}} {
			expectDifference(t, none, otherNone, nil)
			if !impl.EqualBags(none, otherNone) || !impl.EqualBags(otherNone, none) {
				t.Error("a nil slice and an empty slice differ")
			}
		}
	}
}

// The rows of these bags differ in one number each, so that every number of a
// row is looked at, and some of them are not valid.
func TestMultisetFunctionsOfEveryShortSlice(t *testing.T) {
	ascending := ascendingRows()
	for _, places := range placesUpTo(4, len(ascending)) {
		rows := elementsAt(ascending, places)
		counts := countPlaces(places, len(ascending))
		expectSorted(t, rows, repeatEach(ascending, counts))
		expectDistinct(t, rows, repeatEach(ascending, upToOne(counts)))
		for i, row := range ascending {
			expectCount(t, rows, row, counts[i])
		}
		if got := impl.IsSorted(rows); got != slices.IsSorted(places) {
			t.Fatalf("IsSorted(%v) = %v", rows, got)
		}
	}
}

func TestMultisetFunctionsOfEveryPairOfShortSlices(t *testing.T) {
	ascending := ascendingRows()
	expectPairs(t, ascending, placesUpTo(2, len(ascending)))
	expectPairs(t, ascending[3:6], placesUpTo(4, 3))
	expectPairs(t, ascending[6:8], placesUpTo(6, 2))
}

func expectPairs(t *testing.T, ascending []impl.Row, all [][]int) {
	t.Helper()
	for _, a := range all {
		countsOfA := countPlaces(a, len(ascending))
		for _, b := range all {
			countsOfB := countPlaces(b, len(ascending))
			more := make([]int, len(ascending))
			for i := range more {
				more[i] = max(countsOfA[i]-countsOfB[i], 0)
			}
			rowsOfA, rowsOfB := elementsAt(ascending, a), elementsAt(ascending, b)
			expectDifference(t, rowsOfA, rowsOfB, repeatEach(ascending, more))
			if got := impl.EqualBags(rowsOfA, rowsOfB); got != slices.Equal(countsOfA, countsOfB) {
				t.Fatalf("EqualBags(%v, %v) = %v", rowsOfA, rowsOfB, got)
			}
		}
	}
}

func TestMultisetOfRowsThatAreNotValid(t *testing.T) {
	rows := invalidRows()
	sorted := impl.SortRows(rows)
	if len(sorted) != len(rows) || !impl.IsSorted(sorted) || !impl.EqualBags(rows, sorted) {
		t.Error("the rows are not sorted")
	}
	distinct := impl.DistinctRows(rows)
	for i, row := range distinct {
		if i > 0 && impl.CompareRows(distinct[i-1], row) != -1 {
			t.Errorf("%v is not greater than the row before it", row)
		}
	}
	for _, row := range rows {
		want := 0
		for _, other := range rows {
			if other == row {
				want++
			}
		}
		expectCount(t, rows, row, want)
		expectCount(t, sorted, row, want)
		expectCount(t, distinct, row, 1)
		one := []impl.Row{row}
		expectDifference(t, one, one, nil)
		expectDifference(t, one, validEdgeRows(), one)
		if !impl.EqualBags(one, one) || impl.EqualBags(one, []impl.Row{{}}) || impl.EqualBags(one, nil) {
			t.Errorf("EqualBags of %v", row)
		}
	}
}

func TestMultisetOfMoreRowsThanAnInputHas(t *testing.T) {
	all := allRows()
	var mixed []impl.Row
	for i := range 2 * len(all) {
		// 1009 has no factor in common with 4000, so every row comes twice.
		mixed = append(mixed, all[i*1009%len(all)])
	}
	twice := make([]int, len(all))
	for i := range twice {
		twice[i] = 2
	}
	expectSorted(t, mixed, repeatEach(all, twice))
	expectDistinct(t, mixed, all)
	expectDifference(t, mixed, all, all)
	expectDifference(t, all, mixed, nil)
	for _, row := range all[:50] {
		expectCount(t, mixed, row, 2)
	}
	if impl.IsSorted(mixed) || !impl.IsSorted(all) {
		t.Error("IsSorted")
	}
	changed := slices.Clone(mixed)
	changed[len(changed)-1] = impl.Row{Key: 10}
	if !impl.EqualBags(mixed, repeatEach(all, twice)) || impl.EqualBags(mixed, changed) || impl.EqualBags(mixed, all) {
		t.Error("EqualBags")
	}
	same := repeatRow(impl.Row{Key: 4, Value: 2, Width: 1}, 5000)
	expectDistinct(t, same, same[:1])
	expectDifference(t, same, same[:4998], same[:2])
	expectCount(t, same, same[0], 5000)
}

func TestIsSortedLooksAtEveryRow(t *testing.T) {
	ascending := ascendingRows()
	for i := 1; i < len(ascending); i++ {
		rows := slices.Clone(ascending)
		rows[i-1], rows[i] = rows[i], rows[i-1]
		if impl.IsSorted(rows) {
			t.Errorf("IsSorted accepts %v", rows)
		}
		rows[i-1] = rows[i]
		if !impl.IsSorted(rows) {
			t.Errorf("IsSorted rejects %v", rows)
		}
	}
}

func TestMultisetFunctionsLeaveTheirArguments(t *testing.T) {
	backing := append(append(manyRows(20), invalidRows()...), manyRows(20)...)
	otherBacking := slices.Clone(backing)
	slices.Reverse(otherBacking)
	before, otherBefore := slices.Clone(backing), slices.Clone(otherBacking)
	for count := range len(backing) + 1 {
		rows, other := backing[:count], otherBacking[:(count*7)%(len(backing)+1)]
		for range 2 {
			impl.SortRows(rows)
			impl.IsSorted(rows)
			impl.EqualBags(rows, other)
			impl.CountRow(rows, impl.Row{})
			impl.BagDifference(rows, other)
			impl.BagDifference(rows, nil)
			impl.BagDifference(rows, rows)
			impl.DistinctRows(rows)
		}
		if !slices.Equal(backing, before) || !slices.Equal(otherBacking, otherBefore) {
			t.Fatalf("an argument of %d rows or its capacity is modified", count)
		}
	}
}

func TestMultisetResultsAreNewMemory(t *testing.T) {
	// The rows are in order already and all different, so that nothing need
	// be moved or left out.
	backing := ascendingRows()
	before := slices.Clone(backing)
	for count := range len(backing) + 1 {
		rows := backing[:count]
		for _, result := range [][]impl.Row{
			impl.SortRows(rows),
			impl.DistinctRows(rows),
			impl.BagDifference(rows, nil),
			impl.BagDifference(rows, backing[count:]),
			impl.BagDifference(backing[count:], rows),
		} {
			result = result[:cap(result)]
			for i := range result {
				result[i] = impl.Row{Key: 77}
			}
			if !slices.Equal(backing, before) {
				t.Fatalf("a result shares memory with its argument of %d rows", count)
			}
		}
		first, second := impl.SortRows(rows), impl.SortRows(rows)
		clear(first)
		if !slices.Equal(second, rows) {
			t.Fatal("two results share memory")
		}
	}
}

func expectSorted(t *testing.T, rows []impl.Row, want []impl.Row) {
	t.Helper()
	if got := impl.SortRows(rows); !slices.Equal(got, want) {
		t.Fatalf("SortRows(%v) = %v, want %v", rows, got, want)
	}
}

func expectDistinct(t *testing.T, rows []impl.Row, want []impl.Row) {
	t.Helper()
	if got := impl.DistinctRows(rows); !slices.Equal(got, want) {
		t.Fatalf("DistinctRows(%v) = %v, want %v", rows, got, want)
	}
}

func expectCount(t *testing.T, rows []impl.Row, row impl.Row, want int) {
	t.Helper()
	if got := impl.CountRow(rows, row); got != want {
		t.Fatalf("CountRow(%v, %v) = %d, want %d", rows, row, got, want)
	}
}

func expectDifference(t *testing.T, a []impl.Row, b []impl.Row, want []impl.Row) {
	t.Helper()
	if got := impl.BagDifference(a, b); !slices.Equal(got, want) {
		t.Fatalf("BagDifference(%v, %v) = %v, want %v", a, b, got, want)
	}
}

func parsedRows(t *testing.T, s string) []impl.Row {
	t.Helper()
	rows, ok := impl.ParseRows(s)
	if !ok {
		t.Fatalf("%q are no rows", s)
	}
	return rows
}

// ascendingRows returns different rows in ascending order. Neighbours differ
// in one number where they can, and some rows are not valid.
func ascendingRows() []impl.Row {
	return []impl.Row{
		{Key: math.MinInt, Value: math.MaxInt, Width: math.MaxInt},
		{Key: -1, Value: 5, Width: 5},
		{Key: 0, Value: -1, Width: 4},
		{Key: 0, Value: 0, Width: 0},
		{Key: 0, Value: 0, Width: 1},
		{Key: 0, Value: 1, Width: 0},
		{Key: 1, Value: 0, Width: 0},
		{Key: math.MaxInt, Value: math.MinInt, Width: 0},
	}
}

// placesUpTo returns all lists of at most this many of the numbers from 0 to
// limit-1.
func placesUpTo(length int, limit int) [][]int {
	all := [][]int{nil}
	longest := all
	for range length {
		var longer [][]int
		for _, places := range longest {
			for place := range limit {
				longer = append(longer, append(slices.Clone(places), place))
			}
		}
		all = append(all, longer...)
		longest = longer
	}
	return all
}

func elementsAt[T any](elements []T, places []int) []T {
	var chosen []T
	for _, place := range places {
		chosen = append(chosen, elements[place])
	}
	return chosen
}

func countPlaces(places []int, limit int) []int {
	counts := make([]int, limit)
	for _, place := range places {
		counts[place]++
	}
	return counts
}

func upToOne(counts []int) []int {
	limited := make([]int, len(counts))
	for i, count := range counts {
		limited[i] = min(count, 1)
	}
	return limited
}

// repeatEach returns row number i as often as counts[i] says.
func repeatEach(rows []impl.Row, counts []int) []impl.Row {
	var repeated []impl.Row
	for i, row := range rows {
		repeated = append(repeated, repeatRow(row, counts[i])...)
	}
	return repeated
}
