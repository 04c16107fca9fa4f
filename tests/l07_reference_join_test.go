package tests

import (
	"math"
	"slices"
	"strings"
	"testing"

	"loop.example/g01920/impl"
)

func TestJoinExampleOfTheDocument(t *testing.T) {
	left := parsedRows(t, "1.1.0 3.3.0")
	right := parsedRows(t, "1.8.0")
	match := impl.Pair{Left: left[0], Right: right[0], Matched: true}
	first, second := impl.Pair{Left: left[0]}, impl.Pair{Left: left[1]}
	expectJoin(t, impl.LeftJoin, left, right, []impl.Pair{match, second})
	expectJoin(t, impl.InnerJoin, left, right, []impl.Pair{match})
	expectJoin(t, impl.SemiJoin, left, right, []impl.Pair{first})
	expectJoin(t, impl.AntiJoin, left, right, []impl.Pair{second})
	if got := impl.FormatPairs(impl.ReferenceJoin(impl.LeftJoin, left, right)); got != "1.1.0-1.8.0 3.3.0" {
		t.Errorf("the left join is formatted as %q", got)
	}
}

func TestJoinKinds(t *testing.T) {
	if impl.InnerJoin != 1 || impl.SemiJoin != 2 || impl.AntiJoin != 3 || impl.LeftJoin != 4 {
		t.Error("the kinds are not those of the document")
	}
	for _, kind := range joinKinds() {
		if !impl.IsValidJoinKind(kind) {
			t.Errorf("the kind %d is rejected", kind)
		}
	}
	for _, kind := range kindsOutOfRange() {
		if impl.IsValidJoinKind(kind) {
			t.Errorf("the kind %d is accepted", kind)
		}
	}
}

func TestJoinOfAKindThatIsNotValid(t *testing.T) {
	for _, kind := range kindsOutOfRange() {
		for _, left := range [][]impl.Row{nil, manyRows(1), manyRows(24), invalidRows()} {
			for _, right := range [][]impl.Row{nil, manyRows(1), manyRows(24), invalidRows()} {
				expectJoin(t, kind, left, right, nil)
			}
		}
	}
}

func TestJoinOfEachKind(t *testing.T) {
	cases := []struct {
		name, left, right        string
		inner, semi, anti, outer string
	}{
		{
			"equal and different keys", "2.5.1 1.1.0 4.0.2 2.3.0", "2.7.0 5.5.3 1.8.0 2.6.2",
			"2.5.1-2.7.0 2.5.1-2.6.2 1.1.0-1.8.0 2.3.0-2.7.0 2.3.0-2.6.2",
			"2.5.1 1.1.0 2.3.0", "4.0.2",
			"2.5.1-2.7.0 2.5.1-2.6.2 1.1.0-1.8.0 4.0.2 2.3.0-2.7.0 2.3.0-2.6.2",
		},
		{
			"all keys equal", "3.2.0 3.1.0", "3.9.1 3.8.2",
			"3.2.0-3.9.1 3.2.0-3.8.2 3.1.0-3.9.1 3.1.0-3.8.2", "3.2.0 3.1.0", "",
			"3.2.0-3.9.1 3.2.0-3.8.2 3.1.0-3.9.1 3.1.0-3.8.2",
		},
		{
			"all keys different", "1.1.0 5.5.0 3.3.0", "2.2.0 4.4.0",
			"", "", "1.1.0 5.5.0 3.3.0", "1.1.0 5.5.0 3.3.0",
		},
		{
			"keys in other orders", "9.0.0 0.9.0 5.5.0", "5.1.0 9.2.0 0.3.0",
			"9.0.0-9.2.0 0.9.0-0.3.0 5.5.0-5.1.0", "9.0.0 0.9.0 5.5.0", "",
			"9.0.0-9.2.0 0.9.0-0.3.0 5.5.0-5.1.0",
		},
		{
			"rows that occur twice", "1.1.0 2.2.0 1.1.0 2.2.0", "1.4.0 1.4.0",
			"1.1.0-1.4.0 1.1.0-1.4.0 1.1.0-1.4.0 1.1.0-1.4.0", "1.1.0 1.1.0", "2.2.0 2.2.0",
			"1.1.0-1.4.0 1.1.0-1.4.0 2.2.0 1.1.0-1.4.0 1.1.0-1.4.0 2.2.0",
		},
		{
			"equal values and widths", "1.7.2 2.7.2", "2.7.2 3.7.2",
			"2.7.2-2.7.2", "2.7.2", "1.7.2", "1.7.2 2.7.2-2.7.2",
		},
	}
	for _, c := range cases {
		left, right := parsedRows(t, c.left), parsedRows(t, c.right)
		expectJoin(t, impl.InnerJoin, left, right, parsedPairs(t, c.inner))
		expectJoin(t, impl.SemiJoin, left, right, parsedPairs(t, c.semi))
		expectJoin(t, impl.AntiJoin, left, right, parsedPairs(t, c.anti))
		expectJoin(t, impl.LeftJoin, left, right, parsedPairs(t, c.outer))
		for i, want := range []string{c.inner, c.semi, c.anti, c.outer} {
			if got := impl.FormatPairs(impl.ReferenceJoin(joinKinds()[i], left, right)); got != want {
				t.Errorf("%s: the join of the kind %d is formatted as %q, want %q", c.name, joinKinds()[i], got, want)
			}
		}
	}
}

func TestLeftRowWithoutAMatch(t *testing.T) {
	right := parsedRows(t, "1.8.0 3.9.3")
	alone := impl.Row{Key: 2, Value: 8, Width: 3}
	pair := []impl.Pair{{Left: alone}}
	expectJoin(t, impl.InnerJoin, []impl.Row{alone}, right, nil)
	expectJoin(t, impl.SemiJoin, []impl.Row{alone}, right, nil)
	expectJoin(t, impl.AntiJoin, []impl.Row{alone}, right, pair)
	expectJoin(t, impl.LeftJoin, []impl.Row{alone}, right, pair)
	if impl.CountMatches(alone, right) != 0 {
		t.Error("CountMatches finds a match")
	}
	// The row without a match may be at any place among rows with one.
	for place := range 4 {
		left := slices.Insert(parsedRows(t, "1.0.0 3.1.1 1.2.2"), place, alone)
		for _, kind := range joinKinds() {
			expectJoin(t, kind, left, right, joinByKey(kind, left, right))
		}
		outer := impl.ReferenceJoin(impl.LeftJoin, left, right)
		if len(outer) != 4 || outer[place] != pair[0] {
			t.Errorf("the left join is %v without %v at %d", outer, pair, place)
		}
	}
}

// The zero row stands for no row in an unmatched pair, but it is also a valid
// row, so only Matched tells these pairs apart.
func TestJoinWithTheZeroRow(t *testing.T) {
	zero := []impl.Row{{}}
	expectJoin(t, impl.InnerJoin, zero, zero, []impl.Pair{{Matched: true}})
	expectJoin(t, impl.LeftJoin, zero, zero, []impl.Pair{{Matched: true}})
	expectJoin(t, impl.SemiJoin, zero, zero, []impl.Pair{{}})
	expectJoin(t, impl.AntiJoin, zero, zero, nil)
	other := parsedRows(t, "1.0.0")
	expectJoin(t, impl.LeftJoin, zero, other, []impl.Pair{{}})
	expectJoin(t, impl.AntiJoin, zero, other, []impl.Pair{{}})
	expectJoin(t, impl.AntiJoin, other, zero, []impl.Pair{{Left: other[0]}})
	if got := impl.FormatPairs([]impl.Pair{{Matched: true}, {}}); got != "0.0.0-0.0.0 0.0.0" {
		t.Errorf("the pairs of the zero row are formatted as %q", got)
	}
}

func TestJoinOfEmptyInputs(t *testing.T) {
	for _, none := range [][]impl.Row{nil, {}, manyRows(3)[:0]} {
		for _, kind := range joinKinds() {
			expectJoin(t, kind, none, manyRows(24), nil)
			expectJoin(t, kind, none, nil, nil)
			expectJoin(t, kind, none, []impl.Row{}, nil)
		}
		for _, rows := range [][]impl.Row{manyRows(1), manyRows(24), invalidRows()} {
			expectJoin(t, impl.InnerJoin, rows, none, nil)
			expectJoin(t, impl.SemiJoin, rows, none, nil)
			expectJoin(t, impl.AntiJoin, rows, none, alonePairs(rows))
			expectJoin(t, impl.LeftJoin, rows, none, alonePairs(rows))
		}
	}
}

func TestJoinOfEveryPairOfShortLists(t *testing.T) {
	lists := placesUpTo(4, 3)
	for _, leftKeys := range lists {
		for _, rightKeys := range lists {
			expectIdentities(t, rowsOfKeys(leftKeys), rightRowsOfKeys(rightKeys))
		}
	}
}

func TestJoinOfEveryNumberOfRows(t *testing.T) {
	for leftCount := range 25 {
		for rightCount := range 25 {
			right := manyRows(rightCount)
			slices.Reverse(right)
			expectIdentities(t, manyRows(leftCount), right)
		}
	}
}

func TestJoinOfEveryTwoKeys(t *testing.T) {
	for key := range 10 {
		for other := range 10 {
			left := []impl.Row{{Key: key, Value: 5}, {Key: key, Value: 4, Width: 3}}
			right := []impl.Row{{Key: other, Value: 5}, {Key: other, Value: 4, Width: 3}}
			expectIdentities(t, left, right)
			count := 0
			if key == other {
				count = 4
			}
			if got := len(impl.ReferenceJoin(impl.InnerJoin, left, right)); got != count {
				t.Errorf("the keys %d and %d have %d pairs, want %d", key, other, got, count)
			}
		}
	}
}

func TestJoinOfRowsThatAreNotValid(t *testing.T) {
	outside := rowsOfKeys(keysOutOfRange())
	expectIdentities(t, outside, rightRowsOfKeys(keysOutOfRange()))
	expectIdentities(t, outside, manyRows(24))
	expectIdentities(t, manyRows(24), outside)
	expectIdentities(t, invalidRows(), append(manyRows(10), invalidRows()...))
	// No two of these keys are equal, although many have the same hash bits.
	for i, row := range outside {
		for j, other := range outside {
			if got := impl.CountMatches(row, []impl.Row{other}); (got == 1) != (i == j) {
				t.Errorf("%v matches %v: %d", row, other, got)
			}
		}
	}
}

func TestJoinOfMoreRowsThanAnInputHas(t *testing.T) {
	left, right := manyRows(300), manyRows(200)
	expectIdentities(t, left, right)
	same := repeatRow(impl.Row{Key: 4, Value: 2, Width: 1}, 300)
	if got := len(impl.ReferenceJoin(impl.InnerJoin, same, same)); got != 90000 {
		t.Errorf("300 rows and 300 rows of one key have %d pairs", got)
	}
	expectJoin(t, impl.SemiJoin, same, same, alonePairs(same))
	expectJoin(t, impl.AntiJoin, same, same, nil)
}

func TestOrderOfThePairs(t *testing.T) {
	// All rows differ, so that each pair tells the places of its rows.
	left := rowsOfKeys([]int{5, 2, 5, 0, 2, 9, 5})
	right := rightRowsOfKeys([]int{2, 5, 7, 5, 2, 0, 5})
	for _, kind := range joinKinds() {
		lastLeft, lastRight := -1, -1
		for _, pair := range impl.ReferenceJoin(kind, left, right) {
			leftPlace, rightPlace := slices.Index(left, pair.Left), slices.Index(right, pair.Right)
			if pair.Matched != (rightPlace >= 0) {
				t.Errorf("kind %d: %v is not a pair", kind, pair)
			}
			if leftPlace < lastLeft || leftPlace == lastLeft && rightPlace <= lastRight {
				t.Errorf("kind %d: %v comes too late", kind, pair)
			}
			lastLeft, lastRight = leftPlace, rightPlace
		}
	}
	var format []string
	for _, pair := range impl.ReferenceJoin(impl.LeftJoin, left, right) {
		format = append(format, impl.FormatInt(pair.Left.Value)+"+"+impl.FormatInt(pair.Right.Value))
	}
	const want = "0+51 0+53 0+56 1+50 1+54 2+51 2+53 2+56 3+55 4+50 4+54 5+0 6+51 6+53 6+56"
	if got := strings.Join(format, " "); got != want {
		t.Errorf("the pairs have the values %s, want %s", got, want)
	}
}

func TestEveryLeftRowIsInTheSemiJoinOrInTheAntiJoin(t *testing.T) {
	for _, leftKeys := range placesUpTo(4, 4) {
		for _, rightKeys := range placesUpTo(3, 4) {
			left, right := rowsOfKeys(leftKeys), rightRowsOfKeys(rightKeys)
			semi := impl.ReferenceJoin(impl.SemiJoin, left, right)
			anti := impl.ReferenceJoin(impl.AntiJoin, left, right)
			for i, row := range left {
				isInSemi := slices.Contains(semi, impl.Pair{Left: row})
				isInAnti := slices.Contains(anti, impl.Pair{Left: row})
				if isInSemi == isInAnti || isInSemi != slices.Contains(rightKeys, leftKeys[i]) {
					t.Fatalf("%v and %v: %v is in the semi join: %v, in the anti join: %v", left, right, row, isInSemi, isInAnti)
				}
			}
			if len(semi)+len(anti) != len(left) {
				t.Fatalf("%v and %v: %d rows are in the semi join and %d in the anti join", left, right, len(semi), len(anti))
			}
		}
	}
}

// expectIdentities checks every kind of join against joinByKey, and the joins
// against one another.
func expectIdentities(t *testing.T, left []impl.Row, right []impl.Row) {
	t.Helper()
	for _, kind := range joinKinds() {
		expectJoin(t, kind, left, right, joinByKey(kind, left, right))
	}
	inner := impl.ReferenceJoin(impl.InnerJoin, left, right)
	semi := impl.ReferenceJoin(impl.SemiJoin, left, right)
	anti := impl.ReferenceJoin(impl.AntiJoin, left, right)
	outer := impl.ReferenceJoin(impl.LeftJoin, left, right)
	expectSameBag(t, "the semi join and the anti join", slices.Concat(semi, anti), alonePairs(left))
	expectSameBag(t, "the inner join and the anti join", slices.Concat(inner, anti), outer)
	expectSameBag(t, "the inner join of the swapped inputs", swapPairs(impl.ReferenceJoin(impl.InnerJoin, right, left)), inner)
	count := 0
	for _, row := range left {
		count += impl.CountMatches(row, right)
	}
	if len(inner) != count || len(outer) != count+len(anti) {
		t.Fatalf("%d matches, but %d pairs of the inner join and %d of the left join", count, len(inner), len(outer))
	}
	expectIdentitiesOfHalves(t, left, right)
}

// expectIdentitiesOfHalves checks how the joins of the halves of an input
// make up the join of the input.
func expectIdentitiesOfHalves(t *testing.T, left []impl.Row, right []impl.Row) {
	t.Helper()
	leftHalf, rightHalf := len(left)/2, len(right)/2
	for _, kind := range joinKinds() {
		halves := slices.Concat(
			impl.ReferenceJoin(kind, left[:leftHalf], right),
			impl.ReferenceJoin(kind, left[leftHalf:], right),
		)
		expectJoin(t, kind, left, right, halves)
	}
	inner := slices.Concat(
		impl.ReferenceJoin(impl.InnerJoin, left, right[:rightHalf]),
		impl.ReferenceJoin(impl.InnerJoin, left, right[rightHalf:]),
	)
	expectSameBag(t, "the inner joins of the halves", inner, impl.ReferenceJoin(impl.InnerJoin, left, right))
	unmatched := leftRowsOf(impl.ReferenceJoin(impl.AntiJoin, left, right[:rightHalf]))
	expectJoin(t, impl.AntiJoin, left, right, impl.ReferenceJoin(impl.AntiJoin, unmatched, right[rightHalf:]))
}

func TestComparePairsOfEveryTwoInOrder(t *testing.T) {
	expectAscending(t, "ComparePairs", ascendingPairs(), impl.ComparePairs)
}

func TestComparePairsOfMatchedAndUnmatchedPairs(t *testing.T) {
	small, large := impl.Row{Key: 1, Value: 1}, impl.Row{Key: 1, Value: 2}
	cases := []struct {
		a, b impl.Pair
		want int
	}{
		{impl.Pair{Left: small}, impl.Pair{Left: small}, 0},
		{impl.Pair{Left: small}, impl.Pair{Left: small, Matched: true}, -1},
		{impl.Pair{Left: small, Right: large}, impl.Pair{Left: small, Right: small, Matched: true}, -1},
		{impl.Pair{Left: large}, impl.Pair{Left: small, Right: large, Matched: true}, 1},
		{impl.Pair{Left: small, Right: small, Matched: true}, impl.Pair{Left: small, Right: large, Matched: true}, -1},
		{impl.Pair{Left: small, Right: large, Matched: true}, impl.Pair{Left: small, Right: large, Matched: true}, 0},
		{impl.Pair{Left: small, Right: small}, impl.Pair{Left: small, Right: large}, -1},
		{impl.Pair{Left: small, Right: large, Matched: true}, impl.Pair{Left: large, Right: small, Matched: true}, -1},
	}
	for i, c := range cases {
		if got := impl.ComparePairs(c.a, c.b); got != c.want {
			t.Errorf("case %d: ComparePairs = %d, want %d", i, got, c.want)
		}
		if got := impl.ComparePairs(c.b, c.a); got != -c.want {
			t.Errorf("case %d: ComparePairs of the swapped pairs = %d, want %d", i, got, -c.want)
		}
	}
}

func TestEqualPairBagsOfEveryTwoPairs(t *testing.T) {
	ascending := ascendingPairs()
	for i, a := range ascending {
		for j, b := range ascending {
			expectEqualBags(t, []impl.Pair{a}, []impl.Pair{b}, i == j)
			expectEqualBags(t, []impl.Pair{a, b}, []impl.Pair{b, a}, true)
			expectEqualBags(t, []impl.Pair{a, b, a}, []impl.Pair{b, a, b}, i == j)
		}
	}
}

// Two of these pairs differ only in Matched, and two only in Right.
func TestEqualPairBagsOfEveryTwoShortLists(t *testing.T) {
	left, right := impl.Row{Key: 1, Value: 1}, impl.Row{Key: 1, Value: 9, Width: 2}
	pairs := []impl.Pair{
		{Left: left},
		{Left: left, Matched: true},
		{Left: left, Right: right, Matched: true},
	}
	lists := placesUpTo(5, len(pairs))
	for _, a := range lists {
		for _, b := range lists {
			want := slices.Equal(countPlaces(a, len(pairs)), countPlaces(b, len(pairs)))
			if got := impl.EqualPairBags(elementsAt(pairs, a), elementsAt(pairs, b)); got != want {
				t.Fatalf("EqualPairBags of the pairs %v and %v of %v is %v", a, b, pairs, got)
			}
		}
	}
}

func TestPairsThatOccurMoreThanOnce(t *testing.T) {
	match := impl.Pair{Left: impl.Row{Key: 1, Value: 1}, Right: impl.Row{Key: 1, Value: 2}, Matched: true}
	alone := impl.Pair{Left: impl.Row{Key: 1, Value: 1}}
	expectEqualBags(t, []impl.Pair{match, match}, []impl.Pair{match}, false)
	expectEqualBags(t, []impl.Pair{match, match, alone}, []impl.Pair{match, alone, alone}, false)
	expectEqualBags(t, []impl.Pair{match, alone, match}, []impl.Pair{match, match, alone}, true)
	many := slices.Repeat([]impl.Pair{match, alone}, 500)
	sorted := append(slices.Repeat([]impl.Pair{alone}, 500), slices.Repeat([]impl.Pair{match}, 500)...)
	expectEqualBags(t, many, sorted, true)
	expectEqualBags(t, many, many[1:], false)
	sorted[999] = alone
	expectEqualBags(t, many, sorted, false)
	if got := impl.FormatPairs([]impl.Pair{match, alone, match}); got != "1.1.0-1.2.0 1.1.0 1.1.0-1.2.0" {
		t.Errorf("pairs that occur twice are formatted as %q", got)
	}
}

func TestEqualPairBagsOfNoPairs(t *testing.T) {
	some := ascendingPairs()
	for _, none := range [][]impl.Pair{nil, {}, some[:0]} {
		for _, otherNone := range [][]impl.Pair{nil, {}} {
			expectEqualBags(t, none, otherNone, true)
		}
		expectEqualBags(t, none, []impl.Pair{{}}, false)
		expectEqualBags(t, none, some, false)
	}
}

func TestFormatPairs(t *testing.T) {
	low, high := impl.Row{}, impl.Row{Key: 9, Value: 99, Width: 3}
	bad := impl.Row{Key: 10}
	cases := []struct {
		pairs []impl.Pair
		want  string
	}{
		{nil, ""},
		{[]impl.Pair{}, ""},
		{[]impl.Pair{{Left: high}}, "9.99.3"},
		{[]impl.Pair{{Left: high, Right: low, Matched: true}}, "9.99.3-0.0.0"},
		{[]impl.Pair{{Left: low, Right: high, Matched: true}}, "0.0.0-9.99.3"},
		{[]impl.Pair{{Left: high, Right: high}}, "9.99.3"},
		{[]impl.Pair{{Left: high}, {Left: low}, {Left: high, Right: high, Matched: true}}, "9.99.3 0.0.0 9.99.3-9.99.3"},
		{[]impl.Pair{{Left: bad}}, ""},
		{[]impl.Pair{{Left: bad, Right: high, Matched: true}}, "-9.99.3"},
		{[]impl.Pair{{Left: high, Right: bad, Matched: true}}, "9.99.3-"},
		{[]impl.Pair{{Left: bad, Right: bad, Matched: true}}, "-"},
		{[]impl.Pair{{Left: high, Right: bad}, {Left: bad}, {Left: low}}, "9.99.3  0.0.0"},
	}
	for i, c := range cases {
		if got := impl.FormatPairs(c.pairs); got != c.want {
			t.Errorf("case %d: FormatPairs(%v) = %q, want %q", i, c.pairs, got, c.want)
		}
	}
}

func TestFormatPairsOfEveryRow(t *testing.T) {
	rows := rowsByFormat()
	for format, row := range rows {
		for _, other := range validEdgeRows() {
			match := impl.Pair{Left: row, Right: other, Matched: true}
			back := impl.Pair{Left: other, Right: row, Matched: true}
			want := format + "-" + impl.FormatRow(other) + " " + format + " " + impl.FormatRow(other) + "-" + format
			if got := impl.FormatPairs([]impl.Pair{match, {Left: row}, back}); got != want {
				t.Fatalf("the pairs of %v and %v are formatted as %q, want %q", row, other, got, want)
			}
		}
	}
}

func TestFormatPairsOfALargeJoin(t *testing.T) {
	row := impl.Row{Key: 9, Value: 99, Width: 3}
	pairs := impl.ReferenceJoin(impl.InnerJoin, repeatRow(row, 24), repeatRow(row, 24))
	want := strings.TrimSuffix(strings.Repeat("9.99.3-9.99.3 ", 576), " ")
	if got := impl.FormatPairs(pairs); got != want {
		t.Errorf("%d pairs are formatted in %d bytes, want %d", len(pairs), len(got), len(want))
	}
}

func TestCountMatchesOfEveryShortList(t *testing.T) {
	for _, keys := range placesUpTo(5, 4) {
		counts := countPlaces(keys, 5)
		for key, want := range counts {
			row := impl.Row{Key: key, Value: 88, Width: 2}
			if got := impl.CountMatches(row, rowsOfKeys(keys)); got != want {
				t.Fatalf("CountMatches(%v) in the keys %v = %d, want %d", row, keys, got, want)
			}
		}
	}
}

func TestCountMatchesLooksAtTheKeyAlone(t *testing.T) {
	for key := range 10 {
		for _, row := range []impl.Row{{Key: key}, {Key: key, Value: 99, Width: 3}, {Key: key, Value: -1, Width: 4}} {
			if got := impl.CountMatches(row, allRows()); got != 400 {
				t.Errorf("CountMatches(%v) in all rows = %d", row, got)
			}
		}
	}
	for _, key := range keysOutOfRange() {
		row := impl.Row{Key: key, Value: 5}
		if got := impl.CountMatches(row, allRows()); got != 0 {
			t.Errorf("CountMatches(%v) in all rows = %d", row, got)
		}
		if got := impl.CountMatches(row, []impl.Row{{Key: key}, {}, {Key: key, Value: -7}}); got != 2 {
			t.Errorf("CountMatches(%v) in two rows = %d", row, got)
		}
	}
	if impl.CountMatches(impl.Row{}, nil) != 0 || impl.CountMatches(impl.Row{}, []impl.Row{}) != 0 {
		t.Error("CountMatches in no rows is not 0")
	}
}

func TestJoinFunctionsLeaveTheirArguments(t *testing.T) {
	leftBacking := append(append(manyRows(15), invalidRows()...), manyRows(15)...)
	rightBacking := slices.Clone(leftBacking)
	slices.Reverse(rightBacking)
	leftBefore, rightBefore := slices.Clone(leftBacking), slices.Clone(rightBacking)
	for count := range len(leftBacking) + 1 {
		left, right := leftBacking[:count], rightBacking[:(count*7)%(len(rightBacking)+1)]
		for _, kind := range append(joinKinds(), kindsOutOfRange()...) {
			impl.ReferenceJoin(kind, left, right)
			impl.ReferenceJoin(kind, left, left)
		}
		impl.CountMatches(impl.Row{Key: 7}, left)
		if !slices.Equal(leftBacking, leftBefore) || !slices.Equal(rightBacking, rightBefore) {
			t.Fatalf("an argument of %d rows or its capacity is modified", count)
		}
	}
}

func TestPairFunctionsLeaveTheirArguments(t *testing.T) {
	backing := impl.ReferenceJoin(impl.LeftJoin, manyRows(24), manyRows(8))
	backing = append(backing, ascendingPairs()...)
	slices.Reverse(backing)
	otherBacking := slices.Clone(backing)
	slices.Reverse(otherBacking)
	before, otherBefore := slices.Clone(backing), slices.Clone(otherBacking)
	for count := range len(backing) + 1 {
		impl.EqualPairBags(backing[:count], otherBacking[:count])
		impl.EqualPairBags(backing[:count], backing[count:])
		impl.FormatPairs(backing[:count])
		if !slices.Equal(backing, before) || !slices.Equal(otherBacking, otherBefore) {
			t.Fatalf("an argument of %d pairs or its capacity is modified", count)
		}
	}
}

func TestJoinReturnsNewMemory(t *testing.T) {
	left, right := manyRows(24), manyRows(8)
	for _, kind := range joinKinds() {
		leftBefore, rightBefore := slices.Clone(left), slices.Clone(right)
		first := impl.ReferenceJoin(kind, left, right)
		second := impl.ReferenceJoin(kind, left, right)
		want := joinByKey(kind, left, right)
		for i := range first[:cap(first)] {
			first[:cap(first)][i] = impl.Pair{Left: impl.Row{Key: 77}, Right: impl.Row{Key: 77}, Matched: true}
		}
		if !slices.Equal(left, leftBefore) || !slices.Equal(right, rightBefore) {
			t.Errorf("kind %d: the result shares memory with an argument", kind)
		}
		if !slices.Equal(second, want) {
			t.Errorf("kind %d: two results share memory", kind)
		}
		overwrite(slices.Clip(left))
		overwrite(slices.Clip(right))
		if !slices.Equal(second, want) {
			t.Errorf("kind %d: an argument shares memory with the result", kind)
		}
		left, right = leftBefore, rightBefore
	}
}

func expectJoin(t *testing.T, kind int, left []impl.Row, right []impl.Row, want []impl.Pair) {
	t.Helper()
	if got := impl.ReferenceJoin(kind, left, right); !slices.Equal(got, want) {
		t.Fatalf("ReferenceJoin(%d, %v, %v) = %v, want %v", kind, left, right, got, want)
	}
}

// expectEqualBags checks EqualPairBags in both directions.
func expectEqualBags(t *testing.T, a []impl.Pair, b []impl.Pair, want bool) {
	t.Helper()
	if impl.EqualPairBags(a, b) != want || impl.EqualPairBags(b, a) != want {
		t.Fatalf("EqualPairBags(%v, %v) is not %v", a, b, want)
	}
}

// expectSameBag compares with EqualPairBags and, without it, by counting.
func expectSameBag(t *testing.T, what string, got []impl.Pair, want []impl.Pair) {
	t.Helper()
	counts := map[impl.Pair]int{}
	for _, pair := range got {
		counts[pair]++
	}
	for _, pair := range want {
		counts[pair]--
	}
	for pair, count := range counts {
		if count != 0 {
			t.Fatalf("%s: %v occurs %d times more than in %v", what, pair, count, want)
		}
	}
	expectEqualBags(t, got, want, true)
}

// joinByKey joins through a table of the right rows of each key.
func joinByKey(kind int, left []impl.Row, right []impl.Row) []impl.Pair {
	rowsOfKey := map[int][]impl.Row{}
	for _, row := range right {
		rowsOfKey[row.Key] = append(rowsOfKey[row.Key], row)
	}
	var pairs []impl.Pair
	for _, row := range left {
		matches := rowsOfKey[row.Key]
		isAlone := len(matches) == 0
		if kind == impl.SemiJoin {
			isAlone, matches = !isAlone, nil
		}
		if kind == impl.AntiJoin {
			matches = nil
		}
		for _, match := range matches {
			pairs = append(pairs, impl.Pair{Left: row, Right: match, Matched: true})
		}
		if isAlone && kind != impl.InnerJoin {
			pairs = append(pairs, impl.Pair{Left: row})
		}
	}
	return pairs
}

func joinKinds() []int {
	return []int{impl.InnerJoin, impl.SemiJoin, impl.AntiJoin, impl.LeftJoin}
}

func kindsOutOfRange() []int {
	return []int{0, 5, 6, 7, 8, 16, 257, 1<<32 + 1, 1<<32 + 4, math.MaxInt, -1, -2, -3, -4, -255, math.MinInt, math.MinInt + 1}
}

// parsedPairs reads pairs from their formats, separated by spaces.
func parsedPairs(t *testing.T, s string) []impl.Pair {
	t.Helper()
	var pairs []impl.Pair
	for _, format := range strings.Fields(s) {
		left, right, matched := strings.Cut(format, "-")
		pair := impl.Pair{Left: parsedRows(t, left)[0], Matched: matched}
		if matched {
			pair.Right = parsedRows(t, right)[0]
		}
		pairs = append(pairs, pair)
	}
	return pairs
}

// alonePairs returns an unmatched pair for each row.
func alonePairs(rows []impl.Row) []impl.Pair {
	var pairs []impl.Pair
	for _, row := range rows {
		pairs = append(pairs, impl.Pair{Left: row})
	}
	return pairs
}

func leftRowsOf(pairs []impl.Pair) []impl.Row {
	var rows []impl.Row
	for _, pair := range pairs {
		rows = append(rows, pair.Left)
	}
	return rows
}

func swapPairs(pairs []impl.Pair) []impl.Pair {
	var swapped []impl.Pair
	for _, pair := range pairs {
		swapped = append(swapped, impl.Pair{Left: pair.Right, Right: pair.Left, Matched: pair.Matched})
	}
	return swapped
}

// rightRowsOfKeys returns rows with these keys, no two of them equal and none
// equal to one of rowsOfKeys.
func rightRowsOfKeys(keys []int) []impl.Row {
	rows := make([]impl.Row, len(keys))
	for i, key := range keys {
		rows[i] = impl.Row{Key: key, Value: 50 + i, Width: i % 4}
	}
	return rows
}

// ascendingPairs returns different pairs in ascending order. Some have rows
// that are not valid, or a right row although they are unmatched.
func ascendingPairs() []impl.Pair {
	var pairs []impl.Pair
	for _, left := range ascendingRows() {
		for _, matched := range []bool{false, true} {
			for _, right := range ascendingRows() {
				pairs = append(pairs, impl.Pair{Left: left, Right: right, Matched: matched})
			}
		}
	}
	return pairs
}
