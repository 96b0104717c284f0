package row

import (
	"math"
	"slices"
	"strings"
	"testing"

	"millstream/api"
)

var (
	aBool       = api.Type{Kind: api.TBool}
	anInt32     = api.Type{Kind: api.TInt32}
	anInt64     = api.Type{Kind: api.TInt64}
	aString     = api.Type{Kind: api.TString}
	someOf      = api.Type{Kind: api.TBytes}
	maybeBool   = api.Type{Kind: api.TBool, Null: true}
	maybeInt64  = api.Type{Kind: api.TInt64, Null: true}
	maybeString = api.Type{Kind: api.TString, Null: true}
	noType      = api.Type{}

	nothing = api.Cell{Null: true}
	yes, no = num(1), num(0)
)

// num is a cell of a bool, or a whole number; run one of a string, or bytes.
func num(n int64) api.Cell  { return api.Cell{N: n} }
func run(s string) api.Cell { return api.Cell{S: s} }

// of is a row.
func of(cells ...api.Cell) []api.Cell { return cells }

// at is places.
func at(places ...int) []int { return places }

// P10.1 to P10.4: the chapter's examples.
func TestExamples(t *testing.T) {
	cols := columns(anInt32, maybeString, aBool)
	wantCheck(t, cols, of(num(5), nothing, yes), api.OK)
	wantCheck(t, cols, of(num(5), nothing), api.ErrRow)
	wantCheck(t, cols, of(num(5), num(1), yes), api.ErrCell)
	wantCheck(t, cols, of(num(1<<31), nothing, num(2)), api.ErrCell)
	wantCompare(t, of(num(5), nothing, yes), of(num(5), run("a"), no), -1)
	wantCompare(t, nil, of(num(5)), -1)
	wantPick(t, of(num(5), nothing, yes), at(2, 0, 2), of(yes, num(5), yes), api.OK)
	wantPick(t, of(num(5)), at(1), nil, api.ErrRange)
	wantKey(t, cols, at(2, 1), of(num(5), run("a"), yes), "\x01\x01\x61\x00\x00", api.OK)
	wantUnkey(t, cols, at(2, 1), "\x01\x00", of(yes, nothing), api.OK)
	wantUnkey(t, cols, at(2, 1), "\x01\x00\x00", nil, api.ErrTail)
	wantUnkey(t, cols, at(2, 1), "\x01\x02", nil, api.ErrForm)
	wantUnkey(t, cols, at(3), "\x01\x02", nil, api.ErrRange)
}

// P10.1: another number of cells is told ahead of what is wrong with them, and of the first cell that has an error, that error.
func TestCheck(t *testing.T) {
	wantCheck(t, nil, nil, api.OK)
	wantCheck(t, columns(), of(), api.OK)
	wantCheck(t, nil, of(nothing), api.ErrRow)
	wantCheck(t, columns(anInt32), nil, api.ErrRow)
	wantCheck(t, columns(noType), nil, api.ErrRow)
	wantCheck(t, columns(noType), of(num(1), num(1)), api.ErrRow)
	wantCheck(t, columns(aBool, aBool), of(num(2)), api.ErrRow)
	wantCheck(t, columns(aBool), of(num(2), num(2)), api.ErrRow)
	wantCheck(t, columns(aBool, noType), of(num(2), num(0)), api.ErrCell)
	wantCheck(t, columns(noType, aBool), of(num(0), num(2)), api.ErrArg)
	wantCheck(t, columns(aBool, noType), of(yes, num(0)), api.ErrArg)
	wantCheck(t, columns(aBool, anInt64, aString), of(yes, num(7), run("\xff")), api.ErrCell)
	wantCheck(t, columns(aBool, anInt64, someOf), of(yes, num(7), run("\xff")), api.OK)
	wantCheck(t, columns(aBool, maybeBool), of(yes, nothing), api.OK)
	wantCheck(t, columns(maybeBool, aBool), of(yes, nothing), api.ErrCell)
	wantCheck(t, columns(someOf), of(run(strings.Repeat("a", 1024))), api.OK)
	wantCheck(t, columns(someOf), of(run(strings.Repeat("a", 1025))), api.ErrCell)
}

// P10.1 to P10.4: rows may be longer than a schema can be, for nothing is said of how many cells there may be.
func TestLongRows(t *testing.T) {
	var types []api.Type
	var r []api.Cell
	for i := range 1000 {
		types = append(types, anInt64)
		r = append(r, num(int64(i)))
	}
	cols := columns(types...)
	wantCheck(t, cols, r, api.OK)
	wantCheck(t, cols, r[:999], api.ErrRow)
	wantCompare(t, r[:999], r, -1)
	wantPick(t, r, at(999), r[999:], api.OK)
	wantKey(t, cols, at(999), r, "\x80\x00\x00\x00\x00\x00\x03\xe7", api.OK)
	wantUnkey(t, cols, at(999), "\x80\x00\x00\x00\x00\x00\x03\xe7", r[999:], api.OK)
	r[999] = nothing
	wantCheck(t, cols, r, api.ErrCell)
}

// P10.1: Check is that of the words.
func TestCheckIsThatOfTheWords(t *testing.T) {
	next := scatter()
	count := map[api.Errno]int{}
	for range 20000 {
		cols := scatteredColumns(next, next(4), someTypes())
		if next(2) == 0 {
			cols = scatteredColumns(next, len(cols), typesThatMay())
		}
		r := anyRow(next, len(cols))
		for i, col := range cols {
			if cells := cellsOf(col.Type); len(cells) > 0 && next(4) > 0 {
				r[i] = one(next, cells)
			}
		}
		if next(4) == 0 {
			r = anyRow(next, next(5))
		}
		e := wordCheck(cols, r)
		wantCheck(t, cols, r, e)
		count[e]++
	}
	for _, e := range []api.Errno{api.OK, api.ErrArg, api.ErrCell, api.ErrRow} {
		if count[e] < 1000 {
			t.Errorf("the test is wrong: %v", count)
		}
	}
}

// P10.2: the first cells that are unlike tell how rows stand, and if there are none the longer row is greater.
func TestCompareOfChosenRows(t *testing.T) {
	rising := [][]api.Cell{
		nil,
		of(nothing), of(nothing, nothing), of(nothing, num(-1)), of(nothing, num(9)), of(nothing, num(9), nothing),
		of(num(-9)), of(num(-9), nothing),
		of(num(0)), of(num(0), num(0)), of(num(0), num(1)), of(num(0), num(1), num(0)), of(num(0), num(2)),
		of(run("a")), of(run("a"), nothing), of(run("a"), num(math.MinInt64)), of(run("a"), run("\xff")), of(run("a\x00")), of(run("ab"), nothing), of(run("b")),
		of(num(1)), of(num(1), nothing, num(7)), of(num(1), num(0), num(6)), of(num(math.MaxInt64)),
	}
	for i, a := range rising {
		for j, b := range rising {
			switch {
			case i < j:
				wantCompare(t, a, b, -1)
			case i > j:
				wantCompare(t, a, b, 1)
			default:
				wantCompare(t, a, b, 0)
			}
		}
	}
	wantCompare(t, nil, of(), 0)
	wantCompare(t, of(), of(), 0)
}

// P10.2: rows are the same if all cells are, each field of them, whatever these are of.
func TestSameLooksAtEachField(t *testing.T) {
	for _, c := range anyCells() {
		for _, d := range anyCells() {
			a, b := of(num(1), c, num(2)), of(num(1), d, num(2))
			if got := Same(a, b); got != (c == d) {
				t.Errorf("Same(%s, %s): %v", told(a), told(b), got)
			}
		}
	}
}

// P10.2: Compare and Same are those of the words, of rows that fit columns and of such that fit none.
func TestCompareIsThatOfTheWords(t *testing.T) {
	next := scatter()
	count := map[int]int{}
	for range 20000 {
		a := anyRow(next, next(4))
		b := anyRow(next, next(4))
		if next(2) == 0 {
			b = append(slices.Clone(a[:next(len(a)+1)]), b...)
		}
		if next(4) == 0 {
			b = slices.Clone(a)
		}
		want := wordCompare(a, b)
		wantCompare(t, a, b, want)
		count[want]++
	}
	if count[0] < 1000 || count[1] < 1000 || count[-1] < 1000 {
		t.Errorf("the test is wrong: %v", count)
	}
}

// P10.2: a copy has the same cells, whatever these are of.
func TestCopy(t *testing.T) {
	next := scatter()
	rows := [][]api.Cell{nil, of(), of(nothing), anyCells()}
	for range 100 {
		rows = append(rows, anyRow(next, next(6)))
	}
	for _, r := range rows {
		if got := Copy(r); !slices.Equal(got, r) {
			t.Errorf("Copy(%s): %s", told(r), told(got))
		}
	}
}

// P10.3: places may stand in any order, often or not at all; the cells may be of any type or none.
func TestPick(t *testing.T) {
	r := of(num(5), nothing, run("\xff"), api.Cell{Null: true, N: 1, S: "a"})
	wantPick(t, r, nil, nil, api.OK)
	wantPick(t, r, at(), nil, api.OK)
	wantPick(t, nil, nil, nil, api.OK)
	wantPick(t, r, at(0, 1, 2, 3), r, api.OK)
	wantPick(t, r, at(3, 2, 1, 0), of(r[3], r[2], r[1], r[0]), api.OK)
	wantPick(t, r, at(1, 1, 1, 1, 1, 1), of(nothing, nothing, nothing, nothing, nothing, nothing), api.OK)
	for _, wrong := range []int{4, 5, -1, -4, math.MaxInt, math.MinInt, 1 << 32} {
		wantPick(t, r, at(wrong), nil, api.ErrRange)
		wantPick(t, r, at(wrong, 0), nil, api.ErrRange)
		wantPick(t, r, at(0, 1, wrong), nil, api.ErrRange)
		wantPick(t, r, at(0, wrong, 1), nil, api.ErrRange)
	}
	wantPick(t, nil, at(0), nil, api.ErrRange)
}

// P10.3: Pick is that of the words.
func TestPickIsThatOfTheWords(t *testing.T) {
	next := scatter()
	count := map[api.Errno]int{}
	for range 5000 {
		r := anyRow(next, next(5))
		var places []int
		for range next(4) {
			places = append(places, next(len(r)+2)-next(2))
		}
		cells, e := wordPick(r, places)
		wantPick(t, r, places, cells, e)
		count[e]++
	}
	if count[api.OK] < 1000 || count[api.ErrRange] < 1000 {
		t.Errorf("the test is wrong: %v", count)
	}
}

// P10.4: what is wrong with the row is told ahead of what is wrong with the places; all of the row is checked, not the places' cells alone.
func TestKeyOfWrongThings(t *testing.T) {
	cols := columns(anInt32, maybeString, aBool)
	r := of(num(5), run("a"), yes)
	wantKey(t, cols, at(3), r, "", api.ErrRange)
	wantKey(t, cols, at(-1), r, "", api.ErrRange)
	wantKey(t, cols, at(0, 1, math.MaxInt), r, "", api.ErrRange)
	wantKey(t, cols, at(math.MinInt, 0), r, "", api.ErrRange)
	wantKey(t, cols, at(3), r[:2], "", api.ErrRow)
	wantKey(t, cols, at(0), r[:2], "", api.ErrRow)
	wantKey(t, cols[:2], at(0), r, "", api.ErrRow)
	wantKey(t, cols, at(2), nil, "", api.ErrRow)
	wantKey(t, cols, at(-1), of(num(1<<31), run("a"), yes), "", api.ErrCell)
	wantKey(t, cols, at(0), of(num(5), run("a"), num(2)), "", api.ErrCell)
	wantKey(t, cols, nil, of(num(5), run("\xff"), yes), "", api.ErrCell)
	wantKey(t, columns(anInt32, noType), at(0), of(num(1), num(1)), "", api.ErrArg)
	wantKey(t, columns(anInt32, noType), at(2), of(num(1), num(1)), "", api.ErrArg)
	wantKey(t, columns(anInt32, noType), at(0), of(nothing, num(1)), "", api.ErrCell)
	wantKey(t, nil, at(0), nil, "", api.ErrRange)
}

// P10.4: a key is the bits of the cells at places, in the order of these, often or not at all.
func TestKeyOfChosenRows(t *testing.T) {
	cols := columns(maybeInt64, aString, aBool, someOf)
	r := of(num(-1), run("\u00e4"), no, run("a\x00"))
	wantKey(t, cols, nil, r, "", api.OK)
	wantKey(t, nil, nil, nil, "", api.OK)
	wantKey(t, cols, at(0), r, "\x01\x7f\xff\xff\xff\xff\xff\xff\xff", api.OK)
	wantKey(t, cols, at(1, 2), r, "\xc3\xa4\x00\x00\x00", api.OK)
	wantKey(t, cols, at(2, 1), r, "\x00\xc3\xa4\x00\x00", api.OK)
	wantKey(t, cols, at(2, 3, 2, 3), r, "\x00a\x00\xff\x00\x00\x00a\x00\xff\x00\x00", api.OK)
	r[0] = nothing
	wantKey(t, cols, at(0, 0, 2), r, "\x00\x00\x00", api.OK)
}

// P10.4: Unkey's errors: of places first, whatever the bytes are; then of what is left, place by place; then of what is too much.
func TestUnkeyOfWrongThings(t *testing.T) {
	cols := columns(anInt32, maybeString, aBool, noType)
	for _, s := range []string{"", "\x01", "\x02", "\x01\x01"} {
		wantUnkey(t, cols, at(4), s, nil, api.ErrRange)
		wantUnkey(t, cols, at(-1), s, nil, api.ErrRange)
		wantUnkey(t, cols, at(2, 4), s, nil, api.ErrRange)
		wantUnkey(t, cols, at(3, math.MaxInt), s, nil, api.ErrRange)
		wantUnkey(t, cols, at(math.MinInt, 2), s, nil, api.ErrRange)
		wantUnkey(t, nil, at(0), s, nil, api.ErrRange)
		wantUnkey(t, cols, at(3), s, nil, api.ErrArg)
		wantUnkey(t, cols, at(3, 2), s, nil, api.ErrArg)
	}
	wantUnkey(t, cols, at(2, 3), "\x01", nil, api.ErrArg)
	wantUnkey(t, cols, at(2, 3), "\x02", nil, api.ErrForm)
	wantUnkey(t, cols, at(2, 3), "", nil, api.ErrTrunc)
	wantUnkey(t, cols, at(2), "", nil, api.ErrTrunc)
	wantUnkey(t, cols, at(2, 2), "\x01", nil, api.ErrTrunc)
	wantUnkey(t, cols, at(2, 2), "\x01\x02", nil, api.ErrForm)
	wantUnkey(t, cols, at(2, 2), "\x02\x01", nil, api.ErrForm)
	wantUnkey(t, cols, at(2, 2), "\x01\x01\x01", nil, api.ErrTail)
	wantUnkey(t, cols, at(2, 2), "\x01\x01\x02", nil, api.ErrTail)
	wantUnkey(t, cols, nil, "\x00", nil, api.ErrTail)
	wantUnkey(t, cols, at(), "a", nil, api.ErrTail)
	wantUnkey(t, nil, nil, "a", nil, api.ErrTail)
	wantUnkey(t, cols, at(0), "\x80\x00\x00\x00\x80\x00\x00\x00", nil, api.ErrForm)
	wantUnkey(t, cols, at(0), "\x80\x00\x00\x00\x80\x00\x00\x00\x01", nil, api.ErrForm)
	wantUnkey(t, cols, at(0), "\x80\x00\x00\x00\x7f\x00\x00", nil, api.ErrTrunc)
	wantUnkey(t, cols, at(1), "\x01\xff\x00\x00", nil, api.ErrForm)
	wantUnkey(t, cols, at(1), "\x01a", nil, api.ErrTrunc)
	wantUnkey(t, cols, at(1), "\x01a\x00\x00a", nil, api.ErrTail)
}

// P10.4: Unkey of columns, some of which are not asked for: these may be of no type. A place that stands twice has two cells, be they alike or not.
func TestUnkeyOfChosenBytes(t *testing.T) {
	cols := columns(noType, maybeString, aBool, noType)
	wantUnkey(t, cols, nil, "", nil, api.OK)
	wantUnkey(t, nil, nil, "", nil, api.OK)
	wantUnkey(t, cols, at(2), "\x01", of(yes), api.OK)
	wantUnkey(t, cols, at(1, 2), "\x00\x00", of(nothing, no), api.OK)
	wantUnkey(t, cols, at(2, 1), "\x00\x00", of(no, nothing), api.OK)
	wantUnkey(t, cols, at(1, 2, 1), "\x01\x00\xffa\x00\x00\x01\x00", of(run("\x00a"), yes, nothing), api.OK)
	wantUnkey(t, cols, at(1, 1), "\x01\x00\x00\x01a\x00\x00", of(run(""), run("a")), api.OK)
}

// P10.4: Key is that of the words.
func TestKeyIsThatOfTheWords(t *testing.T) {
	next := scatter()
	count := map[api.Errno]int{}
	for range 10000 {
		cols := scatteredColumns(next, next(5), typesThatMay())
		r := scatteredRow(next, cols)
		places := scatteredPlaces(next, len(r))
		switch next(8) {
		case 0:
			places = append(places, len(r)+next(2))
		case 1:
			places = append([]int{-1 - next(2)}, places...)
		case 2:
			r = anyRow(next, len(r))
		case 3:
			r = append(r, nothing)
		case 4:
			cols, r = append(cols, api.Column{}), append(r, nothing)
		}
		key, e := wordKey(cols, places, r)
		wantKey(t, cols, places, r, key, e)
		count[e]++
	}
	for _, e := range []api.Errno{api.OK, api.ErrArg, api.ErrCell, api.ErrRange, api.ErrRow} {
		if count[e] < 500 {
			t.Errorf("the test is wrong: %v", count)
		}
	}
}

// P10.4: Unkey is that of the words, of keys that are spoilt, cut off, or gone on with.
func TestUnkeyIsThatOfTheWords(t *testing.T) {
	next := scatter()
	count := map[api.Errno]int{}
	for range 20000 {
		cols := scatteredColumns(next, 1+next(4), typesThatMay())
		places := scatteredPlaces(next, len(cols))
		key, _ := wordKey(cols, places, scatteredRow(next, cols))
		b := []byte(key)
		switch next(8) {
		case 0:
			b = b[:next(len(b)+1)]
		case 1:
			b = append(b, byte(next(3)))
		case 2, 3, 4:
			if len(b) > 0 {
				b[next(len(b))] = one(next, []byte{0, 1, 2, 0x7f, 0x80, 0xff})
			}
		case 5:
			cols[next(len(cols))].Type = one(next, someTypes())
		case 6:
			places = append(places, next(len(cols)+2)-1)
		}
		count[wantUnkeyOfTheWords(t, cols, places, string(b))]++
	}
	for _, e := range []api.Errno{api.OK, api.ErrArg, api.ErrTrunc, api.ErrForm, api.ErrRange, api.ErrTail} {
		if count[e] < 200 {
			t.Errorf("the test is wrong: %v", count)
		}
	}
}

// roomy is a list with spare room behind it, and all of that memory.
func roomy[T any](list []T, spare T) (l, room []T) {
	room = append(slices.Clone(list), spare, spare, spare)
	return room[:len(list):len(room)], room
}

// P10.5: what is handed in is only read, its spare room neither written to.
func TestWhatIsHandedInIsOnlyRead(t *testing.T) {
	next := scatter()
	for range 500 {
		cols, colsRoom := roomy(scatteredColumns(next, 1+next(4), typesThatMay()), api.Column{Name: "spare"})
		r, rowRoom := roomy(scatteredRow(next, cols), run("spare"))
		other, otherRoom := roomy(scatteredRow(next, cols), run("spare"))
		places, placesRoom := roomy(scatteredPlaces(next, len(cols)), 77)
		colsHad, rowHad, otherHad, placesHad := slices.Clone(colsRoom), slices.Clone(rowRoom), slices.Clone(otherRoom), slices.Clone(placesRoom)
		Check(cols, r)
		Compare(r, other)
		Same(r, other)
		Copy(r)
		Pick(r, places)
		key, _ := Key(cols, places, r)
		Unkey(cols, places, key)
		if !slices.Equal(colsRoom, colsHad) || !slices.Equal(rowRoom, rowHad) || !slices.Equal(otherRoom, otherHad) || !slices.Equal(placesRoom, placesHad) {
			t.Fatalf("what was handed in is another: %v, %s, %s, %v", colsRoom, told(rowRoom), told(otherRoom), placesRoom)
		}
	}
}

// spoil writes over all of a list's memory, its spare room too.
func spoil(r []api.Cell) {
	r = r[:cap(r)]
	for i := range r {
		r[i] = api.Cell{N: 123, S: "spoilt"}
	}
}

// P10.5: what is answered is new memory, each time.
func TestWhatIsAnsweredIsNewMemory(t *testing.T) {
	cols := columns(anInt32, maybeString, aBool)
	r, room := roomy(of(num(5), run("a"), yes), run("spare"))
	had := slices.Clone(room)
	all := at(0, 1, 2)
	key, _ := Key(cols, all, r)
	answers := map[string]func() []api.Cell{
		"Copy":            func() []api.Cell { return Copy(r) },
		"Copy of none":    func() []api.Cell { return Copy(r[:0]) },
		"Pick":            func() []api.Cell { cells, _ := Pick(r, all); return cells },
		"Pick of none":    func() []api.Cell { cells, _ := Pick(r, nil); return cells },
		"Unkey":           func() []api.Cell { cells, _ := Unkey(cols, all, key); return cells },
		"Unkey of none":   func() []api.Cell { cells, _ := Unkey(cols, nil, ""); return cells },
		"Pick, no places": func() []api.Cell { cells, _ := Pick(nil, at()); return cells },
	}
	for what, ask := range answers {
		first, second := ask(), ask()
		want := slices.Clone(second)
		spoil(first)
		if !slices.Equal(second, want) {
			t.Errorf("%s: two answers share memory", what)
		}
		spoil(second)
		if !slices.Equal(room, had) {
			t.Errorf("%s: shares memory with what was handed in", what)
		}
	}
}
