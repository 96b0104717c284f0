package row

import (
	"fmt"
	"math"
	"math/rand/v2"
	"slices"
	"strings"
	"testing"

	"millstream/api"
	"millstream/cell"
)

// wordCheck is P10.1.
func wordCheck(cols []api.Column, r []api.Cell) api.Errno {
	if len(cols) != len(r) {
		return api.ErrRow
	}
	for i := range cols {
		if e := cell.Check(cols[i].Type, r[i]); e != api.OK {
			return e
		}
	}
	return api.OK
}

// wordCompare is how two rows stand, by their first cells.
func wordCompare(a, b []api.Cell) int {
	switch {
	case len(a) == 0 && len(b) == 0:
		return 0
	case len(a) == 0:
		return -1
	case len(b) == 0:
		return 1
	case a[0] != b[0]:
		return cell.Compare(a[0], b[0])
	}
	return wordCompare(a[1:], b[1:])
}

// wordPlaces is ErrRange, if one of places is none of 0 up to many.
func wordPlaces(places []int, many int) api.Errno {
	for _, place := range places {
		if !slices.Contains(upTo(many), place) {
			return api.ErrRange
		}
	}
	return api.OK
}

// wordPick is P10.3.
func wordPick(r []api.Cell, places []int) ([]api.Cell, api.Errno) {
	if e := wordPlaces(places, len(r)); e != api.OK {
		return nil, e
	}
	var picked []api.Cell
	for _, place := range places {
		picked = append(picked, r[place])
	}
	return picked, api.OK
}

// wordKey is P10.4 of Key.
func wordKey(cols []api.Column, places []int, r []api.Cell) (string, api.Errno) {
	if e := wordCheck(cols, r); e != api.OK {
		return "", e
	}
	if e := wordPlaces(places, len(r)); e != api.OK {
		return "", e
	}
	key := ""
	for _, place := range places {
		bits, e := cell.Bits(cols[place].Type, r[place])
		if e != api.OK {
			panic("the test is wrong: bits of a cell that is not of its type")
		}
		key += bits
	}
	return key, api.OK
}

// wordUnkey is P10.4 of Unkey.
func wordUnkey(cols []api.Column, places []int, s string) ([]api.Cell, api.Errno) {
	if e := wordPlaces(places, len(cols)); e != api.OK {
		return nil, e
	}
	return wordApart(cols, places, s)
}

// wordApart is wordUnkey's, of places that are some.
func wordApart(cols []api.Column, places []int, s string) ([]api.Cell, api.Errno) {
	if len(places) == 0 {
		if len(s) > 0 {
			return nil, api.ErrTail
		}
		return nil, api.OK
	}
	c, n, e := cell.Unbits(cols[places[0]].Type, s)
	if e != api.OK {
		return nil, e
	}
	behind, e := wordApart(cols, places[1:], s[n:])
	if e != api.OK {
		return nil, e
	}
	return append([]api.Cell{c}, behind...), api.OK
}

func upTo(many int) []int {
	var l []int
	for n := range many {
		l = append(l, n)
	}
	return l
}

// scatter answers numbers below a limit that lie scattered, the same ones in each run.
func scatter() func(below int) int {
	return rand.New(rand.NewPCG(10, 10)).IntN
}

// one is an element of a list.
func one[T any](next func(below int) int, list []T) T {
	return list[next(len(list))]
}

// anyCells are cells of some types, and of none.
func anyCells() []api.Cell {
	return []api.Cell{
		nothing, num(0), num(1), num(2), num(-1), num(256), num(math.MinInt32), num(math.MaxInt32), num(math.MaxInt32 + 1), num(math.MinInt64), num(math.MaxInt64),
		run(""), run("a"), run("b"), run("ab"), run("\x00"), run("\x00\x00"), run("a\x00"), run("\xff"), run("\xff\x00"), run("\u00e4"), run("\x01"),
		run(strings.Repeat("a", 1024)), run(strings.Repeat("\x00", 1024)), run(strings.Repeat("a", 1025)),
		{Null: true, N: 1}, {Null: true, S: "a"}, {N: 1, S: "a"},
	}
}

// typesThatMay are all types that may be.
func typesThatMay() []api.Type {
	var l []api.Type
	for _, kind := range []int{api.TBool, api.TInt32, api.TInt64, api.TString, api.TBytes} {
		l = append(l, api.Type{Kind: kind}, api.Type{Kind: kind, Null: true})
	}
	return l
}

// someTypes are all types that may be, and such that may not.
func someTypes() []api.Type {
	return append(typesThatMay(), api.Type{}, api.Type{Null: true}, api.Type{Kind: 6}, api.Type{Kind: -1, Null: true})
}

// cellsOf are those of anyCells that are of a type.
func cellsOf(of api.Type) []api.Cell {
	return slices.DeleteFunc(anyCells(), func(c api.Cell) bool { return cell.Check(of, c) != api.OK })
}

// columns are some that have these types, and all sorts of other things, at which nobody may look.
func columns(types ...api.Type) []api.Column {
	var cols []api.Column
	for i, of := range types {
		cols = append(cols, api.Column{Id: 7 - 3*i, Name: strings.Repeat("?", i), Type: of, Default: api.Cell{Null: i%2 == 0, N: int64(i), S: "x"}})
	}
	return cols
}

// scatteredColumns are so many columns of types out of a list.
func scatteredColumns(next func(below int) int, many int, of []api.Type) []api.Column {
	var types []api.Type
	for range many {
		types = append(types, one(next, of))
	}
	return columns(types...)
}

// scatteredRow is one that fits columns whose types may be.
func scatteredRow(next func(below int) int, cols []api.Column) []api.Cell {
	var r []api.Cell
	for _, col := range cols {
		r = append(r, one(next, cellsOf(col.Type)))
	}
	return r
}

// anyRow is so many cells, of any types or none.
func anyRow(next func(below int) int, many int) []api.Cell {
	var r []api.Cell
	for range many {
		r = append(r, one(next, anyCells()))
	}
	return r
}

// scatteredPlaces are some of so many cells; none, if there are no cells.
func scatteredPlaces(next func(below int) int, many int) []int {
	var places []int
	if many == 0 {
		return nil
	}
	for range next(5) {
		places = append(places, next(many))
	}
	return places
}

// told is a row for telling it.
func told(r []api.Cell) string {
	var cells []string
	for _, c := range r {
		cells = append(cells, fmt.Sprintf("{%v %d %.40q}", c.Null, c.N, c.S))
	}
	return "[" + strings.Join(cells, " ") + "]"
}

// typesOf are the types of columns, for telling them.
func typesOf(cols []api.Column) []api.Type {
	var types []api.Type
	for _, col := range cols {
		types = append(types, col.Type)
	}
	return types
}

func wantCheck(t *testing.T, cols []api.Column, r []api.Cell, e api.Errno) {
	t.Helper()
	if got := Check(cols, r); got != e {
		t.Errorf("Check(%v, %s): %d; not %d", typesOf(cols), told(r), got, e)
	}
}

// wantCompare holds Compare, both ways, and Same against how two rows stand.
func wantCompare(t *testing.T, a, b []api.Cell, want int) {
	t.Helper()
	if got := Compare(a, b); got != want {
		t.Errorf("Compare(%s, %s): %d; not %d", told(a), told(b), got, want)
	}
	if got := Compare(b, a); got != -want {
		t.Errorf("Compare(%s, %s): %d; not %d", told(b), told(a), got, -want)
	}
	if got := Same(a, b); got != (want == 0) {
		t.Errorf("Same(%s, %s): %v", told(a), told(b), got)
	}
	if got := Same(b, a); got != (want == 0) {
		t.Errorf("Same(%s, %s): %v", told(b), told(a), got)
	}
}

// wantPick holds Pick against the cells that are wanted, or, if the error is not OK, against none.
func wantPick(t *testing.T, r []api.Cell, places []int, want []api.Cell, e api.Errno) {
	t.Helper()
	if got, gotE := Pick(r, places); !slices.Equal(got, want) || gotE != e {
		t.Errorf("Pick(%s, %v): %s, %d; not %s, %d", told(r), places, told(got), gotE, told(want), e)
	}
}

func wantKey(t *testing.T, cols []api.Column, places []int, r []api.Cell, want string, e api.Errno) {
	t.Helper()
	if got, gotE := Key(cols, places, r); got != want || gotE != e {
		t.Errorf("Key(%v, %v, %s): % .80x, %d; not % .80x, %d", typesOf(cols), places, told(r), got, gotE, want, e)
	}
}

func wantUnkey(t *testing.T, cols []api.Column, places []int, s string, want []api.Cell, e api.Errno) {
	t.Helper()
	if got, gotE := Unkey(cols, places, s); !slices.Equal(got, want) || gotE != e {
		t.Errorf("Unkey(%v, %v, % .80x): %s, %d; not %s, %d", typesOf(cols), places, s, told(got), gotE, told(want), e)
	}
}

// wantUnkeyOfTheWords holds Unkey against the document's words, and answers the error that these tell.
func wantUnkeyOfTheWords(t *testing.T, cols []api.Column, places []int, s string) api.Errno {
	t.Helper()
	cells, e := wordUnkey(cols, places, s)
	wantUnkey(t, cols, places, s, cells, e)
	return e
}
