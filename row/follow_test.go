package row

import (
	"slices"
	"strings"
	"testing"

	"millstream/api"
)

// manyRows are scattered ones of any cells, of up to three out of a few, so that many are alike in their beginnings.
func manyRows() [][]api.Cell {
	next := scatter()
	few := of(nothing, num(0), num(-1), run("a"), run("ab"), run("\x00"), api.Cell{Null: true, N: 1}, api.Cell{N: 1, S: "a"})
	var rows [][]api.Cell
	for range 120 {
		var r []api.Cell
		for range next(4) {
			r = append(r, one(next, few))
		}
		rows = append(rows, r)
	}
	return rows
}

// P10.6: Compare is 0 just of the same rows, turns round if they are handed in the other way, and what is less than a lesser one is less.
func TestCompareIsAnOrder(t *testing.T) {
	rows := manyRows()
	for _, a := range rows {
		for _, b := range rows {
			ab := Compare(a, b)
			if (ab == 0) != slices.Equal(a, b) || Same(a, b) != slices.Equal(a, b) || Compare(b, a) != -ab {
				t.Fatalf("%s and %s: %d, %d, %v", told(a), told(b), ab, Compare(b, a), Same(a, b))
			}
			for _, c := range rows {
				if ab <= 0 && Compare(b, c) <= 0 && Compare(a, c) > 0 {
					t.Fatalf("%s, %s, %s: the last one is less than the first one", told(a), told(b), told(c))
				}
			}
		}
	}
}

// P10.7: keys stand as the cells at their places do.
func TestKeysStandAsCells(t *testing.T) {
	next := scatter()
	count := map[int]int{}
	for range 300 {
		cols := scatteredColumns(next, 1+next(4), typesThatMay())
		places := scatteredPlaces(next, len(cols))
		var rows [][]api.Cell
		for range 8 {
			rows = append(rows, scatteredRow(next, cols))
		}
		rows = append(rows, alikeRows(next, cols, rows)...)
		for _, a := range rows {
			for _, b := range rows {
				order := wantKeysOf(t, cols, places, a, b)
				count[order]++
			}
		}
	}
	if count[0] < 1000 || count[1] < 1000 || count[-1] < 1000 {
		t.Errorf("the test is wrong: %v", count)
	}
}

// alikeRows are these rows, each with one cell of it changed to another one of its type.
func alikeRows(next func(below int) int, cols []api.Column, rows [][]api.Cell) [][]api.Cell {
	var l [][]api.Cell
	for _, r := range rows {
		other := slices.Clone(r)
		place := next(len(cols))
		other[place] = one(next, cellsOf(cols[place].Type))
		l = append(l, other)
	}
	return l
}

// wantKeysOf holds the keys of two rows against each other, and answers how the cells at the places stand.
func wantKeysOf(t *testing.T, cols []api.Column, places []int, a, b []api.Cell) int {
	t.Helper()
	keyA, eA := Key(cols, places, a)
	keyB, eB := Key(cols, places, b)
	cellsA, _ := Pick(a, places)
	cellsB, _ := Pick(b, places)
	order := Compare(cellsA, cellsB)
	if eA != api.OK || eB != api.OK || strings.Compare(keyA, keyB) != order || (keyA == keyB) != slices.Equal(cellsA, cellsB) {
		t.Fatalf("%v at %v: % .80x, %d, of %s; % .80x, %d, of %s; these stand as %d", typesOf(cols), places, keyA, eA, told(cellsA), keyB, eB, told(cellsB), order)
	}
	return order
}

// P10.8: a key is taken apart into the cells at its places, but not if something stands behind it, or is missing.
func TestKeysAreTakenApart(t *testing.T) {
	next := scatter()
	for range 1000 {
		cols := scatteredColumns(next, 1+next(4), typesThatMay())
		r := scatteredRow(next, cols)
		places := scatteredPlaces(next, len(cols))
		key, e := Key(cols, places, r)
		cells, _ := Pick(r, places)
		if e != api.OK {
			t.Fatalf("Key(%v, %v, %s): %d", typesOf(cols), places, told(r), e)
		}
		wantUnkey(t, cols, places, key, cells, api.OK)
		for _, behind := range []string{"\x00", "\x01", "a", "\xff", key + "\x00"} {
			wantUnkey(t, cols, places, key+behind, nil, api.ErrTail)
		}
		if len(key) > 0 {
			wantUnkey(t, cols, places, key[:next(len(key))], nil, api.ErrTrunc)
		}
	}
}

// P10.8: bytes that can be taken apart are the key of these cells: all of up to six bytes of a few, by columns of all sorts.
func TestWhatIsTakenApartIsAKey(t *testing.T) {
	next := scatter()
	pieces := []string{"\x00", "\x01", "\xff", "a"}
	texts := []string{""}
	for begin, most := 0, 6; most > 0; most-- {
		end := len(texts)
		for _, s := range texts[begin:end] {
			for _, piece := range pieces {
				texts = append(texts, s+piece)
			}
		}
		begin = end
	}
	count := map[api.Errno]int{}
	for range 40 {
		cols := scatteredColumns(next, 3, []api.Type{aBool, maybeBool, aString, maybeString, someOf})
		places := slices.Clone([][]int{{0}, {1, 0}, {0, 1, 2}, {2, 0}}[next(4)])
		for _, s := range texts {
			cells, e := Unkey(cols, places, s)
			count[e]++
			if e != api.OK {
				continue
			}
			r := make([]api.Cell, len(cols))
			for i, col := range cols {
				r[i] = one(next, cellsOf(col.Type))
			}
			for i, place := range places {
				r[place] = cells[i]
			}
			wantKey(t, cols, places, r, s, api.OK)
		}
	}
	for _, e := range []api.Errno{api.OK, api.ErrTrunc, api.ErrForm, api.ErrTail} {
		if count[e] < 200 {
			t.Errorf("the test is wrong: %v", count)
		}
	}
}
