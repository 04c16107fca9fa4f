package tests

import (
	"cmp"
	"math"
	"slices"
	"strings"
	"testing"

	"loop.example/g01920/impl"
)

func TestGroupsExampleOfTheDocument(t *testing.T) {
	rows := parsedRows(t, "2.10.0 1.5.0 2.4.0")
	expectGroups(t, rows, []impl.Group{
		{Key: 1, Count: 1, Sum: 5, Min: 5, Max: 5},
		{Key: 2, Count: 2, Sum: 14, Min: 4, Max: 10},
	})
	if got := impl.FormatGroups(impl.ReferenceGroups(rows)); got != "1:1,5,5,5 2:2,14,4,10" {
		t.Errorf("the groups are formatted as %q", got)
	}
	if impl.GroupCost != 3 {
		t.Error("the cost of a group is not that of the document")
	}
}

func TestSingleGroup(t *testing.T) {
	cases := []struct{ rows, want string }{
		{"0.0.0", "0:1,0,0,0"},
		{"9.99.3", "9:1,99,99,99"},
		{"4.7.2 4.7.2 4.7.2", "4:3,21,7,7"},
		{"4.7.2 4.7.0", "4:2,14,7,7"},
		{"3.1.0 3.5.0 3.9.0", "3:3,15,1,9"},
		{"3.9.0 3.5.0 3.1.0", "3:3,15,1,9"},
		{"3.5.0 3.9.0 3.1.0 3.6.0", "3:4,21,1,9"},
		{"6.0.0 6.99.3", "6:2,99,0,99"},
	}
	for _, c := range cases {
		rows := parsedRows(t, c.rows)
		want := parsedGroups(t, c.want)
		expectGroups(t, rows, want)
		expectMerged(t, want, want)
		if got := impl.FormatGroups(impl.ReferenceGroups(rows)); got != c.want {
			t.Errorf("the groups of %s are formatted as %q, want %q", c.rows, got, c.want)
		}
		if !impl.IsValidGroup(want[0]) {
			t.Errorf("the group %s is rejected", c.want)
		}
	}
	for key := range 10 {
		for count := 1; count <= 24; count++ {
			rows := repeatRow(impl.Row{Key: key, Value: 99, Width: key % 4}, count)
			rows[count/2].Value = 98
			group := impl.Group{Key: key, Count: count, Sum: 99*count - 1, Min: 98, Max: 99}
			if count == 1 {
				group.Max = 98
			}
			expectGroups(t, rows, []impl.Group{group})
			expectPartsOfRows(t, rows)
		}
	}
}

func TestGroupsOfNoRows(t *testing.T) {
	for _, none := range [][]impl.Row{nil, {}, manyRows(3)[:0]} {
		expectGroups(t, none, nil)
	}
	some := []impl.Group{{Key: 1, Count: 1, Sum: 5, Min: 5, Max: 5}}
	for _, none := range [][]impl.Group{nil, {}, some[:0]} {
		expectMerged(t, none, nil)
		expectMerged(t, append(none, some...), some)
		if got := impl.FormatGroups(none); got != "" {
			t.Errorf("no groups are formatted as %q", got)
		}
	}
	if impl.IsValidGroup(impl.Group{}) {
		t.Error("the group of no rows is accepted")
	}
}

func TestGroupsOfDifferentKeys(t *testing.T) {
	expectGroups(t, parsedRows(t, "7.3.0 0.8.1 9.2.2 4.6.3"), parsedGroups(t, "0:1,8,8,8 4:1,6,6,6 7:1,3,3,3 9:1,2,2,2"))
	all := rowsOfKeys([]int{0, 1, 2, 3, 4, 5, 6, 7, 8, 9})
	var want []impl.Group
	for _, row := range all {
		want = append(want, impl.Group{Key: row.Key, Count: 1, Sum: row.Value, Min: row.Value, Max: row.Value})
	}
	for start := range all {
		// 3 and 7 have no factor in common with 10, so every key comes once.
		for _, stride := range []int{1, 3, 7, 9} {
			var rows []impl.Row
			for i := range all {
				rows = append(rows, all[(start+i*stride)%10])
			}
			expectGroups(t, rows, want)
			expectPartsOfRows(t, rows)
		}
	}
}

func TestGroupsOfEveryShortListOfKeys(t *testing.T) {
	for _, keys := range placesUpTo(6, 4) {
		rows := rowsOfKeys(keys)
		expectGroups(t, rows, groupsByKey(rows))
	}
}

func TestGroupsOfEveryShortListOfValues(t *testing.T) {
	choices := parsedRows(t, "1.0.0 1.99.1 1.50.2 8.0.3 8.99.0")
	for _, places := range placesUpTo(5, len(choices)) {
		rows := elementsAt(choices, places)
		expectGroups(t, rows, groupsByKey(rows))
	}
}

func TestGroupsOfEveryNumberOfRows(t *testing.T) {
	for count := range 25 {
		expectGroups(t, manyRows(count), groupsByKey(manyRows(count)))
		expectPartsOfRows(t, manyRows(count))
	}
}

func TestGroupsOfMoreRowsThanAnInputHas(t *testing.T) {
	want := make([]impl.Group, 10)
	for key := range want {
		want[key] = impl.Group{Key: key, Count: 400, Sum: 4 * 4950, Min: 0, Max: 99}
	}
	expectGroups(t, allRows(), want)
	if impl.IsValidGroup(want[0]) {
		t.Error("the group of 400 rows is accepted")
	}
	same := repeatRow(impl.Row{Key: 4, Value: 2, Width: 1}, 5000)
	expectGroups(t, same, []impl.Group{{Key: 4, Count: 5000, Sum: 10000, Min: 2, Max: 2}})
}

func TestGroupsOfRowsThatAreNotValid(t *testing.T) {
	expectGroups(t, invalidRows(), groupsByKey(invalidRows()))
	expectGroups(t, ascendingRows(), groupsByKey(ascendingRows()))
	mixed := slices.Concat(manyRows(12), invalidRows(), manyRows(24))
	expectGroups(t, mixed, groupsByKey(mixed))
	expectPartsOfRows(t, ascendingRows())
	// No two of these keys are equal.
	outside := rowsOfKeys(keysOutOfRange())
	if got := impl.ReferenceGroups(outside); len(got) != len(outside) || got[0].Key != math.MinInt {
		t.Errorf("the groups of %v are %v", outside, got)
	}
}

func TestGroupFromRow(t *testing.T) {
	for _, row := range slices.Concat(allRows(), invalidRows(), ascendingRows()) {
		want := impl.Group{Key: row.Key, Count: 1, Sum: row.Value, Min: row.Value, Max: row.Value}
		if got := impl.GroupFromRow(row); got != want {
			t.Fatalf("GroupFromRow(%v) = %v, want %v", row, got, want)
		}
		expectGroups(t, []impl.Row{row}, []impl.Group{want})
		// The width does not matter.
		isValid := impl.IsValidRow(impl.Row{Key: row.Key, Value: row.Value})
		if impl.IsValidGroup(want) != isValid {
			t.Fatalf("IsValidGroup(%v) is not %v", want, isValid)
		}
	}
}

func TestGroupsOfPartsOfRows(t *testing.T) {
	expectPartsOfRows(t, parsedRows(t, "2.10.0 1.5.0 2.4.0 2.10.3 9.0.1 1.99.0"))
	for _, keys := range placesUpTo(5, 3) {
		expectPartsOfRows(t, rowsOfKeys(keys))
	}
}

// The parts need not be the rows before and after a place.
func TestGroupsOfEveryTwoPartsOfRows(t *testing.T) {
	rows := parsedRows(t, "2.10.0 1.5.0 2.4.0 2.10.3 9.0.1 1.99.0 2.55.0 9.0.1 0.7.2")
	for chosen := range 1 << len(rows) {
		var first, second []impl.Row
		for i, row := range rows {
			if chosen>>i&1 == 1 {
				first = append(first, row)
			} else {
				second = append(second, row)
			}
		}
		expectMerged(t, groupsOfParts(first, second), groupsByKey(rows))
	}
}

func TestGroupsOfThreePartsOfRows(t *testing.T) {
	rows := manyRows(24)
	want := groupsByKey(rows)
	for end := range len(rows) + 1 {
		for start := range end + 1 {
			first, second, third := rows[:start], rows[start:end], rows[end:]
			expectMerged(t, groupsOfParts(first, second, third), want)
			expectMerged(t, groupsOfParts(third, first, second), want)
			// Some of the parts may be merged before the others.
			merged := impl.MergeGroups(groupsOfParts(first, second))
			expectMerged(t, append(merged, impl.ReferenceGroups(third)...), want)
			merged = impl.MergeGroups(groupsOfParts(second, third))
			expectMerged(t, append(impl.ReferenceGroups(first), merged...), want)
		}
	}
}

// No key is in two partitions, so their groups need only be put in order.
func TestGroupsOfPartitions(t *testing.T) {
	for count := range 25 {
		rows := manyRows(count)
		for level := range 4 {
			zeros, ones := impl.SplitByHashBit(rows, level)
			groups := groupsOfParts(zeros, ones)
			expectMerged(t, groups, groupsByKey(rows))
			if len(groups) != len(groupsByKey(rows)) {
				t.Errorf("level %d: a key of %v is in two partitions", level, rows)
			}
		}
	}
}

func TestOrderOfTheRowsDoesNotMatter(t *testing.T) {
	rows := parsedRows(t, "2.10.0 1.5.0 2.4.0 2.10.3 9.0.1 1.99.0 2.7.0")
	want := parsedGroups(t, "1:2,104,5,99 2:4,31,4,10 9:1,0,0,0")
	singles := make([]impl.Group, len(rows))
	for i, row := range rows {
		singles[i] = impl.GroupFromRow(row)
	}
	for _, order := range ordersOf(len(rows)) {
		expectGroups(t, elementsAt(rows, order), want)
		expectMerged(t, elementsAt(singles, order), want)
	}
	many := manyRows(24)
	for start := range many {
		turned := append(slices.Clone(many[start:]), many[:start]...)
		expectGroups(t, turned, groupsByKey(many))
		slices.Reverse(turned)
		expectGroups(t, turned, groupsByKey(many))
	}
}

func TestCombineGroupsOfEqualKeys(t *testing.T) {
	cases := []struct{ a, b, want string }{
		{"2:1,10,10,10", "2:1,4,4,4", "2:2,14,4,10"},
		{"2:2,14,4,10", "2:1,7,7,7", "2:3,21,4,10"},
		{"2:2,14,4,10", "2:1,3,3,3", "2:3,17,3,10"},
		{"2:2,14,4,10", "2:1,11,11,11", "2:3,25,4,11"},
		{"2:2,14,4,10", "2:3,40,3,20", "2:5,54,3,20"},
		{"2:2,14,4,10", "2:2,14,4,10", "2:4,28,4,10"},
		{"0:1,0,0,0", "0:1,99,99,99", "0:2,99,0,99"},
		{"9:12,1188,99,99", "9:12,0,0,0", "9:24,1188,0,99"},
		{"9:24,0,0,0", "9:24,2376,99,99", "9:48,2376,0,99"},
		{"2:0,0,0,0", "2:3,40,3,20", "2:3,40,0,20"},
		{"-3:-1,-10,-10,-10", "-3:2,-7,-4,-3", "-3:1,-17,-10,-3"},
	}
	for _, c := range cases {
		a, b, want := parsedGroups(t, c.a)[0], parsedGroups(t, c.b)[0], parsedGroups(t, c.want)[0]
		expectCombined(t, a, b, want)
		expectCombined(t, b, a, want)
		expectMerged(t, []impl.Group{a, b}, []impl.Group{want})
		expectMerged(t, []impl.Group{b, a}, []impl.Group{want})
	}
}

func TestCombineGroupsOfDifferentKeys(t *testing.T) {
	keys := append(keysOutOfRange(), 0, 1, 2, 3, 8, 9)
	for _, key := range keys {
		for _, other := range keys {
			a := impl.Group{Key: key, Count: 2, Sum: 14, Min: 4, Max: 10}
			b := impl.Group{Key: other, Count: 3, Sum: 40, Min: 3, Max: 20}
			if key == other {
				expectCombined(t, a, b, impl.Group{Key: key, Count: 5, Sum: 54, Min: 3, Max: 20})
				continue
			}
			expectCombined(t, a, b, a)
			expectCombined(t, b, a, b)
			b = a
			b.Key = other
			expectCombined(t, a, b, a)
			expectCombined(t, a, impl.Group{Key: other}, a)
			expectCombined(t, impl.Group{Key: other}, a, impl.Group{Key: other})
		}
	}
}

func TestCombineGroupsInAnyOrder(t *testing.T) {
	groups := groupsOfOneKey()
	for _, a := range groups {
		for _, b := range groups {
			if impl.CombineGroups(a, b) != impl.CombineGroups(b, a) {
				t.Errorf("%v and %v give different groups in the other order", a, b)
			}
			for _, c := range groups {
				first := impl.CombineGroups(impl.CombineGroups(a, b), c)
				last := impl.CombineGroups(a, impl.CombineGroups(b, c))
				if first != last {
					t.Errorf("%v, %v and %v give %v or %v", a, b, c, first, last)
				}
				expectMerged(t, []impl.Group{a, b, c}, []impl.Group{first})
			}
		}
	}
}

func TestCombineGroupsOfTheLargestNumbers(t *testing.T) {
	low := impl.Group{Key: math.MinInt, Count: math.MinInt, Sum: math.MinInt, Min: math.MinInt, Max: math.MinInt}
	high := impl.Group{Key: math.MinInt, Count: math.MaxInt, Sum: math.MaxInt, Min: math.MaxInt, Max: math.MaxInt}
	expectCombined(t, low, high, impl.Group{Key: math.MinInt, Count: -1, Sum: -1, Min: math.MinInt, Max: math.MaxInt})
	expectCombined(t, high, high, impl.Group{Key: math.MinInt, Count: -2, Sum: -2, Min: math.MaxInt, Max: math.MaxInt})
	expectCombined(t, low, low, impl.Group{Key: math.MinInt, Min: math.MinInt, Max: math.MinInt})
}

func TestMergeGroupsThatAreNotInOrder(t *testing.T) {
	cases := []struct{ groups, want string }{
		{"2:1,10,10,10 1:1,5,5,5", "1:1,5,5,5 2:1,10,10,10"},
		{"1:1,5,5,5 2:1,10,10,10", "1:1,5,5,5 2:1,10,10,10"},
		{"9:1,1,1,1 5:1,2,2,2 0:1,3,3,3 7:1,4,4,4", "0:1,3,3,3 5:1,2,2,2 7:1,4,4,4 9:1,1,1,1"},
		{"2:2,14,4,10 1:1,5,5,5 2:3,40,3,20 1:2,9,1,8", "1:3,14,1,8 2:5,54,3,20"},
		{"2:1,1,1,1 1:1,2,2,2 2:1,3,3,3 1:1,4,4,4 2:1,5,5,5", "1:2,6,2,4 2:3,9,1,5"},
		{"3:1,1,1,1 3:1,1,1,1 0:2,6,3,3 3:1,1,1,1 0:2,6,3,3", "0:4,12,3,3 3:3,3,1,1"},
		{"10:1,1,1,1 2:1,2,2,2 -1:1,3,3,3 100:1,4,4,4 -10:1,5,5,5", "-10:1,5,5,5 -1:1,3,3,3 2:1,2,2,2 10:1,1,1,1 100:1,4,4,4"},
	}
	for _, c := range cases {
		groups := parsedGroups(t, c.groups)
		for _, order := range ordersOf(len(groups)) {
			expectMerged(t, elementsAt(groups, order), parsedGroups(t, c.want))
		}
		if got := impl.FormatGroups(impl.MergeGroups(groups)); got != c.want {
			t.Errorf("the groups of %s are formatted as %q, want %q", c.groups, got, c.want)
		}
	}
}

// These groups differ in everything else, and some are not valid. A merge
// that starts from a group of zeros would change some of them.
func TestMergeGroupsOfTheSameKey(t *testing.T) {
	groups := groupsOfOneKey()
	for _, places := range placesUpTo(4, len(groups)) {
		chosen := elementsAt(groups, places)
		expectMerged(t, chosen, mergedByKey(chosen))
	}
	expectMerged(t, groups, []impl.Group{{Key: 4, Count: 24, Sum: 301, Min: -5, Max: 99}})
	for _, group := range groups {
		expectMerged(t, []impl.Group{group}, []impl.Group{group})
	}
}

func TestMergeGroupsOfEveryShortList(t *testing.T) {
	choices := parsedGroups(t, "4:2,14,4,10 4:1,99,99,99 0:3,3,0,2 0:1,0,0,0 -7:1,-5,-5,-5 12:30,1,2,3")
	for _, places := range placesUpTo(5, len(choices)) {
		groups := elementsAt(choices, places)
		expectMerged(t, groups, mergedByKey(groups))
	}
}

func TestMergeGroupsOfManyKeys(t *testing.T) {
	var groups, want []impl.Group
	for i := range 1000 {
		// 367 has no factor in common with 1000, so every key comes once.
		key := i*367%1000 - 500
		groups = append(groups, impl.Group{Key: key, Count: 1, Sum: i, Min: i, Max: i})
		want = append(want, impl.Group{Key: i - 500})
	}
	for _, group := range groups {
		want[group.Key+500] = group
	}
	expectMerged(t, groups, want)
	for i := range want {
		want[i].Count, want[i].Sum = 2, 2*want[i].Sum
	}
	expectMerged(t, append(groups, groups...), want)
	extremes := []impl.Group{{Key: math.MaxInt}, {Key: 1}, {Key: math.MinInt}, {Key: -1}}
	expectMerged(t, extremes, []impl.Group{{Key: math.MinInt}, {Key: -1}, {Key: 1}, {Key: math.MaxInt}})
}

func TestMergeGroupsTwice(t *testing.T) {
	for count := range 25 {
		merged := impl.ReferenceGroups(manyRows(count))
		expectMerged(t, merged, merged)
		slices.Reverse(merged)
		expectMerged(t, merged, groupsByKey(manyRows(count)))
	}
}

func TestIsValidGroupMeetsEachBound(t *testing.T) {
	for _, format := range []string{
		"0:1,0,0,0", "9:24,2376,99,99", "0:24,0,0,0", "9:1,99,99,99",
		"5:1,50,50,50", "5:24,1200,50,50", "5:1,0,0,99", "5:1,99,0,99",
		"5:24,0,0,99", "5:24,2376,0,99", "5:24,240,10,20", "5:24,480,10,20",
		"5:2,20,10,20", "5:2,40,10,20", "5:2,30,10,20", "5:3,294,98,99", "5:3,297,98,99",
		// A single row cannot have this group, but it is within the bounds.
		"5:1,15,10,20", "5:3,31,10,20",
	} {
		expectValidGroup(t, format, true)
	}
}

func TestIsValidGroupMissesOneBound(t *testing.T) {
	for _, format := range []string{
		// The key.
		"-1:1,5,5,5", "10:1,5,5,5", "-1:1,0,0,0", "10:24,2376,99,99",
		// The count.
		"5:0,0,0,0", "5:0,0,0,99", "5:25,0,0,0", "5:25,2475,99,99", "5:25,1250,0,99", "5:-1,-5,5,5", "5:-1,0,0,0",
		// The minimum and the maximum.
		"5:1,5,-1,5", "5:1,-1,-1,-1", "5:24,0,-1,99", "5:1,5,5,100", "5:1,100,100,100", "5:24,0,0,100",
		"5:1,5,6,5", "5:1,6,6,5", "5:2,10,5,4", "5:1,0,1,0", "5:24,2376,99,98", "5:1,0,99,0",
		// The sum.
		"5:1,4,5,5", "5:1,6,5,5", "5:1,-1,0,99", "5:1,100,0,99", "5:24,-1,0,99", "5:24,2377,0,99",
		"5:24,239,10,20", "5:24,481,10,20", "5:2,19,10,20", "5:2,41,10,20", "5:3,293,98,99", "5:3,298,98,99",
		"5:2,15,10,20", "5:2,0,10,20", "5:2,99,10,20",
	} {
		expectValidGroup(t, format, false)
	}
}

func TestIsValidGroupOfEveryBound(t *testing.T) {
	for key := -2; key < 13; key++ {
		for count := -2; count < 28; count++ {
			for _, low := range []int{-2, -1, 0, 1, 49, 98, 99, 100, 101} {
				for _, high := range []int{-2, -1, 0, 1, 49, 98, 99, 100, 101} {
					isValid := key >= 0 && key <= 9 && count >= 1 && count <= 24 && low >= 0 && low <= high && high <= 99
					group := impl.Group{Key: key, Count: count, Min: low, Max: high}
					for _, sum := range []int{count*low - 1, count * low, count * high, count*high + 1} {
						group.Sum = sum
						want := isValid && sum >= count*low && sum <= count*high
						if got := impl.IsValidGroup(group); got != want {
							t.Fatalf("IsValidGroup(%v) = %v", group, got)
						}
					}
				}
			}
		}
	}
}

// The products of these numbers do not fit into an int.
func TestIsValidGroupOfTheLargestNumbers(t *testing.T) {
	valid := impl.Group{Key: 5, Count: 2, Sum: 30, Min: 10, Max: 20}
	for _, n := range []int{math.MaxInt, math.MinInt, 1 << 62, -1 << 62, 1 << 60, 1<<61 + 1, 1<<32 + 5, 1<<32 + 2, 1<<32 + 10, 256 + 10, 256 + 20, 256 + 30} {
		groups := slices.Repeat([]impl.Group{valid}, 6)
		groups[0].Key = n
		groups[1].Count = n
		groups[2].Sum = n
		groups[3].Min = n
		groups[4].Max = n
		groups[5] = impl.Group{Key: 5, Count: n, Sum: 0, Min: 16, Max: 16}
		for _, group := range groups {
			if impl.IsValidGroup(group) {
				t.Errorf("%v is accepted", group)
			}
		}
	}
}

func TestGroupsOfValidRowsAreValid(t *testing.T) {
	for count := range 25 {
		for _, row := range validEdgeRows() {
			rows := append(manyRows(24-count), repeatRow(row, count)...)
			for _, group := range impl.ReferenceGroups(rows) {
				if !impl.IsValidGroup(group) {
					t.Fatalf("the group %v of %v is rejected", group, rows)
				}
			}
		}
	}
	for _, row := range validEdgeRows() {
		if impl.IsValidGroup(impl.ReferenceGroups(repeatRow(row, 25))[0]) {
			t.Error("the group of 25 rows is accepted")
		}
	}
}

func TestFormatGroups(t *testing.T) {
	cases := []struct {
		groups []impl.Group
		want   string
	}{
		{nil, ""},
		{[]impl.Group{}, ""},
		{[]impl.Group{{}}, "0:0,0,0,0"},
		{[]impl.Group{{Key: 1, Count: 2, Sum: 3, Min: 4, Max: 5}}, "1:2,3,4,5"},
		{[]impl.Group{{Key: 9, Count: 24, Sum: 2376, Min: 99, Max: 99}}, "9:24,2376,99,99"},
		{[]impl.Group{{Key: 2, Count: 1, Sum: 7, Min: 7, Max: 7}, {Key: 1, Count: 1}, {Key: 2, Count: 1, Sum: 7, Min: 7, Max: 7}}, "2:1,7,7,7 1:1,0,0,0 2:1,7,7,7"},
		{[]impl.Group{{Key: 10, Count: 25, Sum: 10000, Min: 100, Max: 1000}}, "10:25,10000,100,1000"},
		{[]impl.Group{{Key: -1, Count: -2, Sum: -30, Min: -4, Max: -5}, {}}, "-1:-2,-30,-4,-5 0:0,0,0,0"},
		{
			[]impl.Group{{Key: math.MinInt, Count: math.MaxInt, Sum: math.MinInt, Min: math.MinInt, Max: math.MaxInt}},
			"-9223372036854775808:9223372036854775807,-9223372036854775808,-9223372036854775808,9223372036854775807",
		},
	}
	for i, c := range cases {
		if got := impl.FormatGroups(c.groups); got != c.want {
			t.Errorf("case %d: FormatGroups(%v) = %q, want %q", i, c.groups, got, c.want)
		}
	}
}

func TestFormatGroupsOfEveryRow(t *testing.T) {
	for _, row := range allRows() {
		value := impl.FormatInt(row.Value)
		want := impl.FormatInt(row.Key) + ":1," + value + "," + value + "," + value
		group := impl.GroupFromRow(row)
		if got := impl.FormatGroups([]impl.Group{group}); got != want {
			t.Fatalf("FormatGroups(%v) = %q, want %q", group, got, want)
		}
		if got := impl.FormatGroups([]impl.Group{group, group, group}); got != want+" "+want+" "+want {
			t.Fatalf("FormatGroups of %v, three times, = %q", group, got)
		}
	}
}

func TestFormatGroupsOfAllGroupsOfARow(t *testing.T) {
	want := make([]string, 10)
	for key := range want {
		want[key] = impl.FormatInt(key) + ":400,19800,0,99"
	}
	if got := impl.FormatGroups(impl.ReferenceGroups(allRows())); got != strings.Join(want, " ") {
		t.Errorf("the groups of all rows are formatted as %q", got)
	}
}

func TestGroupFunctionsLeaveTheirArguments(t *testing.T) {
	rowBacking := append(append(manyRows(20), invalidRows()...), manyRows(20)...)
	rowsBefore := slices.Clone(rowBacking)
	groupBacking := slices.Repeat(append(groupsOfOneKey(), impl.ReferenceGroups(rowBacking)...), 2)
	slices.Reverse(groupBacking)
	groupsBefore := slices.Clone(groupBacking)
	for range 2 {
		for count := range len(rowBacking) + 1 {
			impl.ReferenceGroups(rowBacking[:count])
		}
		for count := range len(groupBacking) + 1 {
			impl.MergeGroups(groupBacking[:count])
			impl.FormatGroups(groupBacking[:count])
		}
		if !slices.Equal(rowBacking, rowsBefore) || !slices.Equal(groupBacking, groupsBefore) {
			t.Fatal("an argument or its capacity is modified")
		}
	}
}

func TestGroupResultsAreNewMemory(t *testing.T) {
	// The groups are in order already and have different keys, so that
	// nothing need be moved or combined.
	backing := impl.ReferenceGroups(manyRows(24))
	before := slices.Clone(backing)
	for count := range len(backing) + 1 {
		first, second := impl.MergeGroups(backing[:count]), impl.MergeGroups(backing[:count])
		overwriteGroups(first)
		if !slices.Equal(backing, before) {
			t.Fatalf("MergeGroups of %d groups shares memory with its argument", count)
		}
		if !slices.Equal(second, before[:count]) {
			t.Fatalf("two results of MergeGroups of %d groups share memory", count)
		}
		argument := slices.Clone(before[:count])
		third := impl.MergeGroups(argument)
		overwriteGroups(argument)
		if !slices.Equal(third, before[:count]) {
			t.Fatalf("MergeGroups of %d groups keeps its argument", count)
		}
	}
	rows := manyRows(24)
	first, second := impl.ReferenceGroups(rows), impl.ReferenceGroups(rows)
	overwriteGroups(first)
	overwrite(rows)
	if !slices.Equal(second, before) {
		t.Error("two results of ReferenceGroups share memory")
	}
}

// The groups of many keys would come in another order from time to time if
// their order were that of a map.
func TestGroupFunctionsReturnTheSameAgain(t *testing.T) {
	rows := manyRows(24)
	const want = "0:3,110,0,70 1:3,143,11,81 2:2,114,22,92 3:2,36,3,33 4:3,132,14,74 5:2,140,55,85 6:2,162,66,96 7:3,121,7,77 8:2,66,18,48 9:2,88,29,59"
	for range 200 {
		if got := impl.FormatGroups(impl.ReferenceGroups(rows)); got != want {
			t.Fatalf("the groups of 24 rows are %s, want %s", got, want)
		}
	}
}

func expectGroups(t *testing.T, rows []impl.Row, want []impl.Group) {
	t.Helper()
	if got := impl.ReferenceGroups(rows); !slices.Equal(got, want) {
		t.Fatalf("ReferenceGroups(%v) = %v, want %v", rows, got, want)
	}
}

func expectMerged(t *testing.T, groups []impl.Group, want []impl.Group) {
	t.Helper()
	if got := impl.MergeGroups(groups); !slices.Equal(got, want) {
		t.Fatalf("MergeGroups(%v) = %v, want %v", groups, got, want)
	}
}

func expectCombined(t *testing.T, a impl.Group, b impl.Group, want impl.Group) {
	t.Helper()
	if got := impl.CombineGroups(a, b); got != want {
		t.Fatalf("CombineGroups(%v, %v) = %v, want %v", a, b, got, want)
	}
}

func expectValidGroup(t *testing.T, format string, want bool) {
	t.Helper()
	group := parsedGroups(t, format)[0]
	if got := impl.IsValidGroup(group); got != want {
		t.Errorf("IsValidGroup(%v) = %v", group, got)
	}
}

// expectPartsOfRows checks that, wherever the rows are split, the groups of
// the two parts make up the groups of all the rows.
func expectPartsOfRows(t *testing.T, rows []impl.Row) {
	t.Helper()
	want := groupsByKey(rows)
	for place := range len(rows) + 1 {
		expectMerged(t, groupsOfParts(rows[:place], rows[place:]), want)
		expectMerged(t, groupsOfParts(rows[place:], rows[:place]), want)
	}
	expectGroups(t, rows, want)
}

// groupsOfParts returns the groups of each part, not merged.
func groupsOfParts(parts ...[]impl.Row) []impl.Group {
	var groups []impl.Group
	for _, part := range parts {
		groups = append(groups, impl.ReferenceGroups(part)...)
	}
	return groups
}

// groupsByKey collects the values of each key before it looks at them.
func groupsByKey(rows []impl.Row) []impl.Group {
	valuesOfKey := map[int][]int{}
	for _, row := range rows {
		valuesOfKey[row.Key] = append(valuesOfKey[row.Key], row.Value)
	}
	var groups []impl.Group
	for key, values := range valuesOfKey {
		group := impl.Group{Key: key, Count: len(values), Min: slices.Min(values), Max: slices.Max(values)}
		for _, value := range values {
			group.Sum += value
		}
		groups = append(groups, group)
	}
	slices.SortFunc(groups, func(a, b impl.Group) int { return cmp.Compare(a.Key, b.Key) })
	return groups
}

// mergedByKey collects the numbers of the groups of each key before it looks
// at them.
func mergedByKey(groups []impl.Group) []impl.Group {
	var keys []int
	for _, group := range groups {
		keys = append(keys, group.Key)
	}
	slices.Sort(keys)
	var merged []impl.Group
	for _, key := range slices.Compact(keys) {
		whole := impl.Group{Key: key}
		var lows, highs []int
		for _, group := range groups {
			if group.Key == key {
				whole.Count += group.Count
				whole.Sum += group.Sum
				lows, highs = append(lows, group.Min), append(highs, group.Max)
			}
		}
		whole.Min, whole.Max = slices.Min(lows), slices.Max(highs)
		merged = append(merged, whole)
	}
	return merged
}

// groupsOfOneKey returns groups with the same key that differ in everything
// else. Some are not valid.
func groupsOfOneKey() []impl.Group {
	return []impl.Group{
		{Key: 4, Count: 2, Sum: 14, Min: 4, Max: 10},
		{Key: 4, Count: 1, Sum: 99, Min: 99, Max: 99},
		{Key: 4, Count: 20, Sum: 200, Min: 8, Max: 12},
		{Key: 4, Count: 4, Sum: -4, Min: -5, Max: -3},
		{Key: 4, Count: -3, Sum: -8, Min: 50, Max: 1},
	}
}

// parsedGroups reads groups from their formats, separated by spaces.
func parsedGroups(t *testing.T, s string) []impl.Group {
	t.Helper()
	var groups []impl.Group
	for _, format := range strings.Fields(s) {
		var numbers []int
		for _, field := range strings.FieldsFunc(format, func(r rune) bool { return r == ':' || r == ',' }) {
			n, ok := impl.ParseInt(field)
			if !ok {
				t.Fatalf("%q is no group", format)
			}
			numbers = append(numbers, n)
		}
		if len(numbers) != 5 {
			t.Fatalf("%q is no group", format)
		}
		groups = append(groups, impl.Group{Key: numbers[0], Count: numbers[1], Sum: numbers[2], Min: numbers[3], Max: numbers[4]})
	}
	return groups
}

// ordersOf returns all orders of the numbers from 0 to count-1.
func ordersOf(count int) [][]int {
	orders := [][]int{nil}
	for number := range count {
		var longer [][]int
		for _, order := range orders {
			for place := range number + 1 {
				longer = append(longer, slices.Insert(slices.Clone(order), place, number))
			}
		}
		orders = longer
	}
	return orders
}

// overwriteGroups changes the groups and their unused capacity.
func overwriteGroups(groups []impl.Group) {
	groups = groups[:cap(groups)]
	for i := range groups {
		groups[i] = impl.Group{Key: 77, Count: math.MaxInt}
	}
}
