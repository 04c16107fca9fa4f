package tests

import (
	"math"
	"slices"
	"testing"

	"loop.example/g01920/impl"
)

func TestHashExampleOfTheDocument(t *testing.T) {
	if impl.MaxLevel != 4 {
		t.Error("the number of levels is not that of the document")
	}
	expectBit(t, 2, 0, 0)
	expectBit(t, 2, 1, 1)
	expectBit(t, 2, 2, 1)
	expectBit(t, 2, 3, 1)
	rows := parsedRows(t, "2.1.0 0.5.3 2.0.1 1.1.1 3.3.0")
	expectSplit(t, rows, 0, parsedRows(t, "2.1.0 0.5.3 2.0.1"), parsedRows(t, "1.1.1 3.3.0"))
	expectSplit(t, rows, 1, parsedRows(t, "0.5.3 3.3.0"), parsedRows(t, "2.1.0 2.0.1 1.1.1"))
	expectFirstLevel(t, rows, 0)
	expectSameKey(t, rows, false)
}

func TestHashBitOfEveryKeyAndLevel(t *testing.T) {
	for key := range 10 {
		for level := range 4 {
			expectBit(t, key, level, tableBit(key, level))
		}
	}
}

func TestHashBitOutOfRange(t *testing.T) {
	for key := range 10 {
		for _, level := range levelsOutOfRange() {
			expectBit(t, key, level, 0)
		}
	}
	for _, key := range keysOutOfRange() {
		for level := range 4 {
			expectBit(t, key, level, 0)
		}
		for _, level := range levelsOutOfRange() {
			expectBit(t, key, level, 0)
		}
	}
}

func TestSplitOfEveryShortListOfKeys(t *testing.T) {
	for _, keys := range placesUpTo(4, 10) {
		expectPartition(t, rowsOfKeys(keys))
	}
	// The key 9 differs from the others at the levels 0, 1, 2 and 3.
	for _, places := range placesUpTo(5, 5) {
		keys := make([]int, len(places))
		for i, place := range places {
			keys[i] = []int{9, 0, 7, 5, 1}[place]
		}
		expectPartition(t, rowsOfKeys(keys))
	}
}

func TestSplitOfEveryNumberOfRows(t *testing.T) {
	for count := range 60 {
		expectPartition(t, manyRows(count))
	}
	expectPartition(t, allRows())
}

func TestSplitKeepsRowsThatOccurTwice(t *testing.T) {
	rows := parsedRows(t, "1.1.0 2.2.0 1.1.0 1.1.0 2.2.0")
	expectSplit(t, rows, 0, parsedRows(t, "2.2.0 2.2.0"), parsedRows(t, "1.1.0 1.1.0 1.1.0"))
	expectSplit(t, rows, 1, nil, rows)
}

func TestSplitIgnoresValueAndWidth(t *testing.T) {
	for key := range 10 {
		for level := range 4 {
			var rows []impl.Row
			for _, row := range allRows() {
				if row.Key == key {
					rows = append(rows, row)
				}
			}
			zeros, ones := rows, []impl.Row(nil)
			if tableBit(key, level) == 1 {
				zeros, ones = ones, zeros
			}
			expectSplit(t, rows, level, zeros, ones)
		}
	}
}

func TestRowsThatAllHaveTheSameKey(t *testing.T) {
	for key := range 10 {
		for count := 1; count <= 30; count++ {
			rows := manyRows(count)
			for i := range rows {
				rows[i].Key = key
			}
			expectSameKey(t, rows, true)
			expectFirstLevel(t, rows, 4)
			expectPartition(t, rows)
			for level := range 4 {
				zeros, ones := impl.SplitByHashBit(rows, level)
				if len(zeros) > 0 && len(ones) > 0 {
					t.Fatalf("level %d splits %d rows of the key %d", level, count, key)
				}
			}
		}
	}
}

func TestOneRowWithAnotherKey(t *testing.T) {
	for key := range 10 {
		for other := range 10 {
			if other == key {
				continue
			}
			for place := range 6 {
				rows := repeatRow(impl.Row{Key: key, Value: 5, Width: 1}, 6)
				rows[place].Key = other
				expectSameKey(t, rows, false)
				expectFirstLevel(t, rows, firstDifferentBit(key, other))
			}
		}
	}
}

func TestFirstSplittingLevelOfEverySetOfKeys(t *testing.T) {
	for set := range 1 << 10 {
		var keys []int
		for key := range 10 {
			if set>>key&1 == 1 {
				keys = append(keys, key, key)
			}
		}
		want := 4
		for _, key := range keys {
			want = min(want, firstDifferentBit(keys[0], key))
		}
		rows := rowsOfKeys(keys)
		expectFirstLevel(t, rows, want)
		expectSameKey(t, rows, len(keys) <= 2)
		slices.Reverse(rows)
		expectFirstLevel(t, rows, want)
		expectSameKey(t, rows, len(keys) <= 2)
	}
}

func TestSplitAtEveryLevelLeavesOneKeyAPart(t *testing.T) {
	rows := append(allRows(), allRows()...)
	parts := [][]impl.Row{rows}
	for level := range impl.MaxLevel {
		var halves [][]impl.Row
		for _, part := range parts {
			zeros, ones := impl.SplitByHashBit(part, level)
			halves = append(halves, zeros, ones)
		}
		parts = halves
	}
	partOfKey := map[int]int{}
	for i, part := range parts {
		expectSameKey(t, part, true)
		for _, row := range part {
			if other, ok := partOfKey[row.Key]; ok && other != i {
				t.Fatalf("the key %d is in the parts %d and %d", row.Key, other, i)
			}
			partOfKey[row.Key] = i
		}
	}
	if len(partOfKey) != 10 || !impl.EqualBags(slices.Concat(parts...), rows) {
		t.Error("the parts are not all the rows")
	}
}

func TestSplitOfNoRows(t *testing.T) {
	for _, none := range [][]impl.Row{nil, {}, manyRows(3)[:0]} {
		expectSameKey(t, none, true)
		expectFirstLevel(t, none, 4)
		for _, level := range append(levelsOutOfRange(), 0, 1, 2, 3) {
			expectSplit(t, none, level, nil, nil)
		}
	}
}

func TestSplitAtALevelOutOfRange(t *testing.T) {
	for _, level := range levelsOutOfRange() {
		for _, rows := range [][]impl.Row{manyRows(24), manyRows(1), allRows(), invalidRows()} {
			expectSplit(t, rows, level, rows, nil)
		}
	}
}

func TestSplitOfKeysOutOfRange(t *testing.T) {
	outside := rowsOfKeys(keysOutOfRange())
	for level := range 4 {
		expectSplit(t, outside, level, outside, nil)
	}
	expectFirstLevel(t, outside, 4)
	expectSameKey(t, outside, false)
	for i, row := range outside {
		expectSameKey(t, repeatRow(row, 5), true)
		expectSameKey(t, []impl.Row{row, outside[(i+1)%len(outside)]}, false)
		// Their bits are those of the key 0, but their keys are not.
		zero := []impl.Row{row, {}, row}
		expectSameKey(t, zero, false)
		expectFirstLevel(t, zero, 4)
		expectPartition(t, zero)
		for key := 1; key < 10; key++ {
			mixed := []impl.Row{row, {Key: key}, row}
			expectFirstLevel(t, mixed, firstDifferentBit(0, key))
			expectSameKey(t, mixed, false)
			expectPartition(t, mixed)
		}
	}
	expectPartition(t, invalidRows())
	expectPartition(t, append(outside, allRows()...))
}

func TestHashFunctionsLeaveTheirArguments(t *testing.T) {
	backing := append(append(manyRows(20), invalidRows()...), manyRows(20)...)
	before := slices.Clone(backing)
	for count := range len(backing) + 1 {
		rows := backing[:count]
		for range 2 {
			for _, level := range append(levelsOutOfRange(), 0, 1, 2, 3) {
				impl.SplitByHashBit(rows, level)
			}
			impl.AllSameKey(rows)
			impl.FirstSplittingLevel(rows)
		}
		if !slices.Equal(backing, before) {
			t.Fatalf("an argument of %d rows or its capacity is modified", count)
		}
	}
}

func TestSplitReturnsNewMemory(t *testing.T) {
	mixed := manyRows(24)
	same := repeatRow(impl.Row{Key: 7, Value: 7, Width: 1}, 24)
	for _, backing := range [][]impl.Row{mixed, same, impl.SortRows(mixed)} {
		before := slices.Clone(backing)
		for count := range len(backing) + 1 {
			for _, level := range append(levelsOutOfRange(), 0, 1, 2, 3) {
				zeros, ones := expectSidesApart(t, backing[:count], level)
				if !slices.Equal(backing, before) {
					t.Fatalf("level %d: a side shares memory with the %d rows", level, count)
				}
				expectSplit(t, backing[:count], level, zeros, ones)
			}
		}
	}
}

// expectSidesApart overwrites one side after the other, with an append beyond
// each, and looks whether the other side or a second result changes with it.
// It returns the sides as they were.
func expectSidesApart(t *testing.T, rows []impl.Row, level int) ([]impl.Row, []impl.Row) {
	t.Helper()
	zeros, ones := impl.SplitByHashBit(rows, level)
	otherZeros, otherOnes := impl.SplitByHashBit(rows, level)
	zerosBefore, onesBefore := slices.Clone(zeros), slices.Clone(ones)
	_ = append(zeros, impl.Row{Key: 77}, impl.Row{Key: 77})
	overwrite(zeros)
	if !slices.Equal(ones, onesBefore) {
		t.Fatalf("level %d: the sides of %v share memory", level, rows)
	}
	zeros = slices.Clone(zerosBefore)
	_ = append(ones, impl.Row{Key: 77}, impl.Row{Key: 77})
	overwrite(ones)
	if !slices.Equal(zeros, zerosBefore) || !slices.Equal(otherZeros, zerosBefore) || !slices.Equal(otherOnes, onesBefore) {
		t.Fatalf("level %d: two results for %v share memory", level, rows)
	}
	return zerosBefore, onesBefore
}

func expectBit(t *testing.T, key int, level int, want int) {
	t.Helper()
	if got := impl.HashBit(key, level); got != want {
		t.Errorf("HashBit(%d, %d) = %d, want %d", key, level, got, want)
	}
}

func expectSplit(t *testing.T, rows []impl.Row, level int, wantZeros []impl.Row, wantOnes []impl.Row) {
	t.Helper()
	zeros, ones := impl.SplitByHashBit(rows, level)
	if !slices.Equal(zeros, wantZeros) || !slices.Equal(ones, wantOnes) {
		t.Fatalf("SplitByHashBit(%v, %d) = %v, %v, want %v, %v", rows, level, zeros, ones, wantZeros, wantOnes)
	}
}

func expectSameKey(t *testing.T, rows []impl.Row, want bool) {
	t.Helper()
	if got := impl.AllSameKey(rows); got != want {
		t.Fatalf("AllSameKey(%v) = %v", rows, got)
	}
}

func expectFirstLevel(t *testing.T, rows []impl.Row, want int) {
	t.Helper()
	if got := impl.FirstSplittingLevel(rows); got != want {
		t.Fatalf("FirstSplittingLevel(%v) = %d, want %d", rows, got, want)
	}
}

// expectPartition checks at every level that each row is on the side of its
// key, and that the sides taken together by the order of the rows are all the
// rows. It also checks the first level and the keys by the two sides.
func expectPartition(t *testing.T, rows []impl.Row) {
	t.Helper()
	firstLevel := 4
	for level := 3; level >= 0; level-- {
		zeros, ones := impl.SplitByHashBit(rows, level)
		if len(zeros) > 0 && len(ones) > 0 {
			firstLevel = level
		}
		for _, row := range rows {
			side := &zeros
			if tableBit(row.Key, level) == 1 {
				side = &ones
			}
			if len(*side) == 0 || (*side)[0] != row {
				t.Fatalf("level %d: %v of %v is not next on its side", level, row, rows)
			}
			*side = (*side)[1:]
		}
		if len(zeros) > 0 || len(ones) > 0 {
			t.Fatalf("level %d: the sides of %v have more rows", level, rows)
		}
	}
	expectFirstLevel(t, rows, firstLevel)
	keys := map[int]bool{}
	for _, row := range rows {
		keys[row.Key] = true
	}
	expectSameKey(t, rows, len(keys) < 2)
}

// tableBit returns a bit of the hash of the key from a list of the hashes,
// each written with its bit 0 first. A key that is not in the list has none.
func tableBit(key int, level int) int {
	hashes := []string{
		"0000", // 0
		"1110", // 7
		"0111", // 14
		"1010", // 5, that is 21 - 16
		"0011", // 12, that is 28 - 16
		"1100", // 3, that is 35 - 32
		"0101", // 10, that is 42 - 32
		"1000", // 1, that is 49 - 48
		"0001", // 8, that is 56 - 48
		"1111", // 15, that is 63 - 48
	}
	if key < 0 || key >= len(hashes) {
		return 0
	}
	return int(hashes[key][level] - '0')
}

// firstDifferentBit returns the first level at which the bits of two keys
// differ, or 4 if they never do.
func firstDifferentBit(key int, other int) int {
	for level := range 4 {
		if tableBit(key, level) != tableBit(other, level) {
			return level
		}
	}
	return 4
}

// rowsOfKeys returns rows with these keys, no two of them equal.
func rowsOfKeys(keys []int) []impl.Row {
	rows := make([]impl.Row, len(keys))
	for i, key := range keys {
		rows[i] = impl.Row{Key: key, Value: i, Width: (i + 1) % 4}
	}
	return rows
}

func levelsOutOfRange() []int {
	return []int{4, 5, 8, 31, 32, 63, 64, 65, 256, 1 << 32, math.MaxInt, -1, -2, -4, -64, -1 << 32, math.MinInt}
}

// keysOutOfRange returns keys of which many would have a hash that is not 0.
func keysOutOfRange() []int {
	return []int{10, 11, 15, 17, 25, 256, 257, 1<<32 + 1, math.MaxInt, -1, -2, -7, -15, -1<<32 + 1, math.MinInt, math.MinInt + 1}
}
