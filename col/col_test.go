package col

import (
	"math"
	"slices"
	"strings"
	"testing"

	"millstream/api"
)

// P16.1 and P16.2: the chapter's examples.
func TestExamples(t *testing.T) {
	wantPut(t, []byte{0xaa}, maybeInt32, []api.Cell{{N: 1}, nothing, {N: -2}}, []byte{0xaa, 0x05, 0x02, 0x03}, api.OK)
	wantPut(t, nil, aString, runs("b", "a", "b"), []byte{0x02, 0x01, 0x62, 0x01, 0x61, 0x00, 0x01, 0x00}, api.OK)
	wantPut(t, nil, aBool, nums(1, 0, 1), []byte{0x05}, api.OK)
	wantPut(t, nil, someOf, runs("\xff", ""), []byte{0x01, 0xff, 0x00}, api.OK)
	wantPut(t, nil, anInt32, []api.Cell{nothing}, nil, api.ErrCell)
	wantPut(t, nil, api.Type{Kind: 9}, nil, nil, api.ErrArg)
	wantGet(t, []byte{0x05, 0x02, 0x03}, maybeInt32, 3, []api.Cell{{N: 1}, nothing, {N: -2}}, 3, api.OK)
	wantGet(t, []byte{0x05, 0x02}, maybeInt32, 3, nil, 0, api.ErrTrunc)
	wantGet(t, []byte{0x0d}, aBool, 3, nil, 0, api.ErrBits)
	wantGet(t, []byte{0x80, 0x80, 0x80, 0x80, 0x10}, anInt32, 1, nil, 0, api.ErrCell)
	wantGet(t, []byte{0x01, 0x01, 0xff, 0x00}, aString, 1, nil, 0, api.ErrCell)
	wantGet(t, []byte{0x00}, anInt64, 1, nums(0), 1, api.OK)
	wantGet(t, nil, anInt64, 0, nil, 0, api.OK)
}

// columns are some, with their bytes.
func columns() []column {
	eight := []api.Cell{{N: 1}, {N: 1}, {N: 1}, {N: 1}, {N: 1}, {N: 1}, {N: 1}, {N: 1}}
	var nine []api.Cell
	for range 9 {
		nine = append(nine, nothing)
	}
	return []column{
		{aBool, nil, ""}, {maybeBool, nil, ""}, {anInt32, nil, ""}, {maybeInt32, nil, ""}, {anInt64, nil, ""}, {maybeInt64, nil, ""}, {someOf, nil, ""}, {maybeSomeOf, nil, ""},
		{aString, nil, "\x00"}, {maybeString, nil, "\x00"},
		{aBool, nums(0), "\x00"}, {aBool, nums(1), "\x01"}, {aBool, nums(0, 0, 1), "\x04"}, {aBool, eight, "\xff"}, {aBool, append(nums(0), eight...), "\xfe\x01"},
		{maybeBool, nums(0), "\x01\x00"}, {maybeBool, nums(1), "\x01\x01"}, {maybeBool, []api.Cell{nothing}, "\x00"}, {maybeBool, []api.Cell{nothing, {N: 1}, nothing, {N: 0}, {N: 1}}, "\x1a\x05"},
		{maybeBool, nine, "\x00\x00"}, {maybeBool, append(nine[:8:8], api.Cell{N: 1}), "\x00\x01\x01"},
		{anInt32, nums(0, -1, 1, 63, 64, -64, -65), "\x00\x01\x02\x7e\x80\x01\x7f\x81\x01"}, {anInt32, nums(math.MaxInt32, math.MinInt32), "\xfe\xff\xff\xff\x0f\xff\xff\xff\xff\x0f"},
		{anInt64, nums(0, -1, 1), "\x00\x01\x02"}, {anInt64, nums(math.MaxInt64, math.MinInt64), "\xfe\xff\xff\xff\xff\xff\xff\xff\xff\x01\xff\xff\xff\xff\xff\xff\xff\xff\xff\x01"}, {anInt64, nums(1<<31, -1<<31-1), "\x80\x80\x80\x80\x10\x81\x80\x80\x80\x10"},
		{maybeInt32, []api.Cell{nothing, {N: 3}}, "\x02\x06"}, {maybeInt64, []api.Cell{{N: 0}, nothing}, "\x01\x00"}, {maybeInt64, nine, "\x00\x00"},
		{aString, runs(""), "\x01\x00\x00"}, {aString, runs("", "\u00e4", "", "\x00"), "\x03\x00\x02\xc3\xa4\x01\x00\x00\x01\x00\x02"},
		{maybeString, []api.Cell{nothing, {S: "x"}, {S: "x"}}, "\x06\x01\x01x\x00\x00"}, {maybeString, []api.Cell{nothing, nothing}, "\x00\x00"}, {maybeString, []api.Cell{{}, nothing}, "\x01\x01\x00\x00"},
		{someOf, runs(""), "\x00"}, {someOf, runs("a", "", "a", "\x00\xff"), "\x01a\x00\x01a\x02\x00\xff"},
		{maybeSomeOf, []api.Cell{{}, nothing, {S: "\xc3"}}, "\x05\x00\x01\xc3"}, {maybeSomeOf, nine[:8], "\x00"},
		{aString, runs(strings.Repeat("x", 1024)), "\x01\x80\x08" + strings.Repeat("x", 1024) + "\x00"}, {someOf, runs(strings.Repeat("\xff", 1024)), "\x80\x08" + strings.Repeat("\xff", 1024)}, {someOf, runs(strings.Repeat("\xff", 128)), "\x80\x01" + strings.Repeat("\xff", 128)},
	}
}

type column struct {
	of    api.Type
	cells []api.Cell
	bytes string
}

// P16.1 and P16.2: columns of each kind, ahead of them other bytes, and behind them.
func TestColumns(t *testing.T) {
	for _, c := range columns() {
		wantPut(t, nil, c.of, c.cells, []byte(c.bytes), api.OK)
		wantPut(t, []byte{}, c.of, c.cells, []byte(c.bytes), api.OK)
		wantPut(t, []byte("\x00ahead\xff"), c.of, c.cells, []byte("\x00ahead\xff"+c.bytes), api.OK)
		for _, behind := range []string{"", "\x00", "\x80", "\xff\xff"} {
			wantGet(t, []byte(c.bytes+behind), c.of, len(c.cells), c.cells, len(c.bytes), api.OK)
		}
		for at := range len(c.bytes) {
			wantGet(t, []byte(c.bytes[:at]), c.of, len(c.cells), nil, 0, api.ErrTrunc)
		}
	}
}

// wrongCells are such as are not of a type, be it that it is a bool's, a number's, a string's or bytes'.
func wrongCells(of api.Type) []api.Cell {
	l := []api.Cell{{Null: true, N: 1}, {Null: true, S: "a"}, {N: 1, S: "a"}, {S: strings.Repeat("a", 1025)}}
	if !of.Null {
		l = append(l, nothing)
	}
	switch of.Kind {
	case api.TBool:
		return append(l, api.Cell{N: 2}, api.Cell{N: -1}, api.Cell{N: math.MinInt64}, api.Cell{S: "a"})
	case api.TInt32:
		return append(l, api.Cell{N: 1 << 31}, api.Cell{N: -1<<31 - 1}, api.Cell{N: 1 << 32}, api.Cell{S: "a"})
	case api.TInt64:
		return append(l, api.Cell{S: "a"})
	case api.TString:
		return append(l, api.Cell{N: 1}, api.Cell{S: "\xff"}, api.Cell{S: "a\xc3"}, api.Cell{S: "\xed\xa0\x80"}, api.Cell{S: "\xc0\x80"})
	}
	return append(l, api.Cell{N: 1})
}

// P16.1: a type that may not be is told ahead of cells that are not of it; one such cell, wherever it is, is one too many.
func TestPutRefuses(t *testing.T) {
	for _, of := range typesThatMayNot() {
		wantPut(t, nil, of, nil, nil, api.ErrArg)
		wantPut(t, []byte{0x01}, of, []api.Cell{}, nil, api.ErrArg)
		wantPut(t, []byte{0x01}, of, nums(1), nil, api.ErrArg)
		wantPut(t, []byte{0x01}, of, []api.Cell{nothing, {N: 1, S: "a"}}, nil, api.ErrArg)
	}
	next := scatter()
	for _, of := range typesThatMay() {
		for _, wrong := range wrongCells(of) {
			wantPut(t, []byte{0x01}, of, []api.Cell{wrong}, nil, api.ErrCell)
			l := scatteredCells(next, of, 20)
			for at := range len(l) + 1 {
				wantPut(t, []byte{0x01}, of, slices.Insert(slices.Clone(l), at, wrong), nil, api.ErrCell)
			}
		}
	}
}

// P16.1: each list of up to four of some cells, of which some are of a type, and some are not.
func TestPutOfAllShortLists(t *testing.T) {
	some := []api.Cell{nothing, {}, {N: 1}, {N: -1 << 31}, {N: 1 << 31}, {S: "a"}, {S: "\xff"}, {Null: true, N: 1}}
	count := map[api.Errno]int{}
	eachList(some, 4, func(l []api.Cell) {
		for _, of := range append(typesThatMay(), api.Type{Kind: 6, Null: true}) {
			count[wantPutOfTheWords(t, []byte{0x80}, of, l)]++
		}
	})
	if count[api.OK] < 1000 || count[api.ErrCell] < 1000 || count[api.ErrArg] < 1000 {
		t.Errorf("the test is wrong: %v", count)
	}
}

// P16.1: Put is that of the words.
func TestPutIsThatOfTheWords(t *testing.T) {
	next := scatter()
	for _, of := range typesThatMay() {
		for many := range 1000 {
			l := scatteredCells(next, of, many%70)
			wantPutOfTheWords(t, []byte(scatteredText(next, false)), of, l)
		}
	}
}

// P16.2: a type that may not be is told ahead of how many cells there are to be, and that ahead of the bytes.
func TestGetOfTypesAndHowMany(t *testing.T) {
	wrong := []int{math.MinInt, math.MinInt32, -8, -1, 1<<20 + 1, 1<<20 + 8, 1 << 32, 1<<32 + 1, math.MaxInt}
	bytes := []string{"", "\x00", "\x01\x00\x00\x00", "\x80\x00", "\xff\xff"}
	for _, b := range bytes {
		for _, of := range typesThatMayNot() {
			for _, n := range append([]int{0, 1, 2, 1 << 20}, wrong...) {
				wantGet(t, []byte(b), of, n, nil, 0, api.ErrArg)
			}
		}
		for _, of := range typesThatMay() {
			for _, n := range wrong {
				wantGet(t, []byte(b), of, n, nil, 0, api.ErrRange)
			}
		}
	}
	for _, of := range typesThatMay() {
		wantGet(t, nil, of, 1, nil, 0, api.ErrTrunc)
		wantGet(t, nil, of, 1<<20, nil, 0, api.ErrTrunc)
		wantGet(t, []byte{0x01}, of, 1<<20, nil, 0, api.ErrTrunc)
	}
}

// P16.2: what is nothing is looked at first, then what is there, which is just as many cells.
func TestGetOfWhatIsNothing(t *testing.T) {
	for _, of := range []api.Type{maybeBool, maybeInt32, maybeInt64, maybeString, maybeSomeOf} {
		wantGet(t, []byte("\x08\x80\x00"), of, 3, nil, 0, api.ErrBits)
		wantGet(t, []byte("\xff"), of, 9, nil, 0, api.ErrTrunc)
		wantGet(t, []byte("\x80"), of, 7, nil, 0, api.ErrBits)
		wantGet(t, []byte("\x01"), of, 1, nil, 0, api.ErrTrunc)
	}
	wantGet(t, []byte("\x05\x04"), maybeBool, 3, nil, 0, api.ErrBits)
	wantGet(t, []byte("\x05\x02"), maybeBool, 3, []api.Cell{{}, nothing, {N: 1}}, 2, api.OK)
	wantGet(t, []byte("\x00\x80"), maybeInt64, 8, slices.Repeat([]api.Cell{nothing}, 8), 1, api.OK)
	wantGet(t, []byte("\x02\x80\x00"), maybeInt64, 3, nil, 0, api.ErrLong)
	wantGet(t, []byte("\x02\x00\x80\x00"), maybeInt64, 3, []api.Cell{nothing, {}, nothing}, 2, api.OK)
	wantGet(t, []byte("\x02\x02\x01a\x01b\x00\x01"), maybeString, 3, nil, 0, api.ErrLimit)
	wantGet(t, []byte("\x00\x01\x01a\x00"), maybeString, 3, nil, 0, api.ErrLimit)
	wantGet(t, []byte("\x04\x02ab\x02"), maybeSomeOf, 3, []api.Cell{nothing, nothing, {S: "ab"}}, 4, api.OK)
}

// P16.2: numbers one by one: of each that it is one, then that it is of the type; the first wrong one is told.
func TestGetOfNumbers(t *testing.T) {
	for _, c := range []struct {
		bytes          string
		n              int
		small, greater api.Errno
	}{
		{"\x80", 1, api.ErrTrunc, api.ErrTrunc},
		{"\x80\x00", 1, api.ErrLong, api.ErrLong},
		{"\x02\x80\x00", 2, api.ErrLong, api.ErrLong},
		{"\xff\xff\xff\xff\xff\xff\xff\xff\xff\x02", 1, api.ErrRange, api.ErrRange},
		{"\xfe\xff\xff\xff\x0f", 1, api.OK, api.OK},
		{"\xff\xff\xff\xff\x0f", 1, api.OK, api.OK},
		{"\x80\x80\x80\x80\x10", 1, api.ErrCell, api.OK},
		{"\x81\x80\x80\x80\x10", 1, api.ErrCell, api.OK},
		{"\x80\x80\x80\x80\x20", 1, api.ErrCell, api.OK},
		{"\x82\x80\x80\x80\x20", 1, api.ErrCell, api.OK},
		{"\xfe\xff\xff\xff\xff\xff\xff\xff\xff\x01", 1, api.ErrCell, api.OK},
		{"\xff\xff\xff\xff\xff\xff\xff\xff\xff\x01", 1, api.ErrCell, api.OK},
		{"\x02\x80\x80\x80\x80\x10", 2, api.ErrCell, api.OK},
		{"\x80\x80\x80\x80\x10\x02", 2, api.ErrCell, api.OK},
		{"\x80\x80\x80\x80\x10\x80\x00", 2, api.ErrCell, api.ErrLong},
		{"\x80\x80\x80\x80\x10", 2, api.ErrCell, api.ErrTrunc},
		{"\x80\x00\x80\x80\x80\x80\x10", 2, api.ErrLong, api.ErrLong},
		{"\x02\x80\x80\x80\x80\x10", 1, api.OK, api.OK},
		{"\x02\x80\x00", 1, api.OK, api.OK},
	} {
		b := []byte(c.bytes)
		for of, e := range map[api.Type]api.Errno{anInt32: c.small, anInt64: c.greater} {
			if got := wantGetOfTheWords(t, b, of, c.n); got != e {
				t.Errorf("the test is wrong: Get of %s, %v, %d: %d, not %d", toldBytes(b), of, c.n, got, e)
			}
			some := api.Type{Kind: of.Kind, Null: true}
			if got := wantGetOfTheWords(t, slices.Concat([]byte{byte(1<<c.n - 1)}, b), some, c.n); got != e {
				t.Errorf("the test is wrong: Get of %s, %v, %d: %d, not %d", toldBytes(b), some, c.n, got, e)
			}
		}
	}
}

// P16.2: strings are at first any list of texts of up to 1024 bytes, then UTF-8.
func TestGetOfStrings(t *testing.T) {
	most, more := strings.Repeat("x", 1024), strings.Repeat("x", 1025)
	for _, c := range []struct {
		bytes string
		n     int
		want  []api.Cell
		size  int
		e     api.Errno
	}{
		{"\x01\x80\x08" + most + "\x00\x00", 2, runs(most, most), 1029, api.OK},
		{"\x01\x81\x08" + more + "\x00\x00", 2, nil, 0, api.ErrLimit},
		{"\x01\x81\x08", 1, nil, 0, api.ErrLimit},
		{"\x01\x80\x08" + most[1:], 1, nil, 0, api.ErrTrunc},
		{"\x02\x01a\x01b\x01\x00", 2, nil, 0, api.ErrDict},
		{"\x02\x01a\x01a\x00\x01", 2, nil, 0, api.ErrDict},
		{"\x01\x01a\x01", 1, nil, 0, api.ErrDict},
		{"\x01\x01a\x80\x00", 1, nil, 0, api.ErrLong},
		{"\x02\x01a\x01b\x00\x01", 1, nil, 0, api.ErrLimit},
		{"\x02\x01\xff\x01b\x00\x01", 2, nil, 0, api.ErrCell},
		{"\x02\x01b\x01\xff\x00\x01", 2, nil, 0, api.ErrCell},
		{"\x02\x01b\x02a\xc3\x00\x01", 2, nil, 0, api.ErrCell},
		{"\x01\x03\xed\xa0\x80\x00", 1, nil, 0, api.ErrCell},
		{"\x01\x02\xc0\x80\x00", 1, nil, 0, api.ErrCell},
		{"\x01\x80\x08" + most[1:] + "\xc3\x00", 1, nil, 0, api.ErrCell},
		{"\x01\x01\xff\x01", 1, nil, 0, api.ErrDict},
		{"\x01\x01\xff", 1, nil, 0, api.ErrTrunc},
		{"\x02\x01\xff\x01\xff\x00\x01", 2, nil, 0, api.ErrDict},
		{"\x02\x01\xff\x81\x08", 2, nil, 0, api.ErrLimit},
		{"\x02\x01\xff\x01b\x00\x00", 2, nil, 0, api.ErrDict},
		{"\x01\x03\xef\xbf\xbd\x00", 1, runs("\ufffd"), 6, api.OK},
	} {
		wantGet(t, []byte(c.bytes), aString, c.n, c.want, c.size, c.e)
		if c.e == api.OK {
			c.size++
		}
		wantGet(t, []byte(string([]byte{byte(1<<c.n - 1)})+c.bytes), maybeString, c.n, c.want, c.size, c.e)
	}
}

// P16.2: bytes cell by cell: how many, not too many, and all of them there; they may be any.
func TestGetOfBytes(t *testing.T) {
	most, more := strings.Repeat("\xff", 1024), strings.Repeat("\xff", 1025)
	for _, c := range []struct {
		bytes string
		n     int
		want  []api.Cell
		size  int
		e     api.Errno
	}{
		{"\x80\x08" + most, 1, runs(most), 1026, api.OK},
		{"\x80\x08" + most[1:], 1, nil, 0, api.ErrTrunc},
		{"\x81\x08" + more, 1, nil, 0, api.ErrLimit},
		{"\x81\x08", 1, nil, 0, api.ErrLimit},
		{"\x80\x80\x80\x80\x10", 1, nil, 0, api.ErrLimit},
		{"\xff\xff\xff\xff\xff\xff\xff\xff\xff\x01", 1, nil, 0, api.ErrLimit},
		{"\x80\x80\x80\x80\x80\x80\x80\x80\x80\x01", 1, nil, 0, api.ErrLimit},
		{"\xff\xff\xff\xff\xff\xff\xff\xff\xff\x02", 1, nil, 0, api.ErrRange},
		{"\x80\x00", 1, nil, 0, api.ErrLong},
		{"\x80", 1, nil, 0, api.ErrTrunc},
		{"\x02a", 1, nil, 0, api.ErrTrunc},
		{"\x01a\x02b", 2, nil, 0, api.ErrTrunc},
		{"\x01a\x80\x00", 2, nil, 0, api.ErrLong},
		{"\x01a\x81\x08", 2, nil, 0, api.ErrLimit},
		{"\x02a\x81\x08", 2, nil, 0, api.ErrTrunc},
		{"\x02aa\x80\x00", 2, nil, 0, api.ErrLong},
		{"\x01a\x01a\x00", 3, runs("a", "a", ""), 5, api.OK},
		{"\x01a\x01a\x00", 2, runs("a", "a"), 4, api.OK},
		{"\x01\xff\x02\xc3\x00", 2, runs("\xff", "\xc3\x00"), 5, api.OK},
	} {
		wantGet(t, []byte(c.bytes), someOf, c.n, c.want, c.size, c.e)
		if c.e == api.OK {
			c.size++
		}
		wantGet(t, []byte(string([]byte{byte(1<<c.n - 1)})+c.bytes), maybeSomeOf, c.n, c.want, c.size, c.e)
	}
}

// P16.2: each text of up to five of some telling bytes, of so many cells of each type.
func TestGetOfAllShortBytes(t *testing.T) {
	count := map[api.Errno]int{}
	eachList([]byte{0x00, 0x01, 0x02, 0x03, 0x80, 0xff, 0x61}, 5, func(b []byte) {
		for _, of := range append(typesThatMay(), api.Type{Kind: 6}) {
			for n := -1; n <= 3; n++ {
				count[wantGetOfTheWords(t, b, of, n)]++
			}
		}
	})
	for _, e := range []api.Errno{api.OK, api.ErrArg, api.ErrRange, api.ErrTrunc, api.ErrLong, api.ErrBits, api.ErrLimit, api.ErrDict, api.ErrCell} {
		if count[e] < 50 {
			t.Errorf("the test is wrong: %v", count)
		}
	}
}

// P16.2: what was put, with a byte changed, put in or taken away, and its beginnings.
func TestGetOfSpoiltBytes(t *testing.T) {
	next := scatter()
	count := map[api.Errno]int{}
	for range 300 {
		for _, of := range typesThatMay() {
			l := scatteredCells(next, of, next(12))
			b := put(t, of, l)
			look := func(b []byte) {
				for n := max(0, len(l)-1); n <= len(l)+1; n++ {
					count[wantGetOfTheWords(t, b, of, n)]++
				}
			}
			look(b)
			for range min(len(b), 10) {
				at := next(len(b))
				look(b[:at])
				look(slices.Delete(slices.Clone(b), at, at+1))
				for _, c := range []byte{0x00, 0x01, b[at] ^ 1<<next(8), 0x80, 0xff} {
					look(slices.Concat(b[:at], []byte{c}, b[at+1:]))
					look(slices.Insert(slices.Clone(b), at, c))
				}
			}
		}
	}
	for _, e := range []api.Errno{api.OK, api.ErrTrunc, api.ErrLong, api.ErrBits, api.ErrLimit, api.ErrDict, api.ErrCell} {
		if count[e] < 200 {
			t.Errorf("the test is wrong: %v", count)
		}
	}
}

// P16.1 and P16.2: at the limit of cells, and above it, where a column is put, but not got.
func TestManyCells(t *testing.T) {
	next := scatter()
	for _, of := range typesThatMay() {
		some := scatteredCells(next, of, 1000)
		l := make([]api.Cell, 1<<20+1)
		for i := range l {
			l[i] = some[next(len(some))]
		}
		wantPutOfTheWords(t, []byte{0x07}, of, l)
		b := put(t, of, l[:1<<20])
		wantGet(t, append(b, 0x00), of, 1<<20, l[:1<<20], len(b), api.OK)
		wantGet(t, b[:len(b)-1], of, 1<<20, nil, 0, api.ErrTrunc)
		wantGet(t, b, of, 1<<20+1, nil, 0, api.ErrRange)
	}
}

// P16.2: a long text that stands in as many places as may be, in few bytes.
func TestLongTextInManyPlaces(t *testing.T) {
	text := strings.Repeat("\u00e4", 512)
	b := slices.Concat([]byte{0x01, 0x80, 0x08}, []byte(text), make([]byte, 1<<20))
	wantGet(t, b, aString, 1<<20, slices.Repeat(runs(text), 1<<20), len(b), api.OK)
	b[3] = 0xff
	wantGet(t, b, aString, 1<<20, nil, 0, api.ErrCell)
}

// roomy is a list with spare room behind it, and the list with that room.
func roomy[T any](list []T, spare T) (l, room []T) {
	room = slices.Concat(list, slices.Repeat([]T{spare}, 4*len(list)+40))
	return room[:len(list):len(room)], room
}

// spoil writes over a list and its room.
func spoil[T any](l []T, with T) {
	l = l[:cap(l)]
	for i := range l {
		l[i] = with
	}
}

// P16.3: what is handed in is only read, its spare room neither written to.
func TestWhatIsHandedInIsOnlyRead(t *testing.T) {
	next := scatter()
	for range 200 {
		for _, of := range typesThatMay() {
			list := scatteredCells(next, of, next(20))
			l, listRoom := roomy(list, api.Cell{N: 1, S: "z"})
			b, bytesRoom := roomy(put(t, of, list), 0x55)
			listHad, bytesHad := slices.Clone(listRoom), slices.Clone(bytesRoom)
			Put(b, of, l)
			Put(b[:0], of, l)
			Put(b, of, l[:0])
			Put(b[:0], of, listRoom)
			for n := -1; n <= len(l)+1; n++ {
				Get(b, of, n)
			}
			if !slices.Equal(listRoom, listHad) || !slices.Equal(bytesRoom, bytesHad) {
				t.Fatalf("handed in: %s, %s, and it is now %s, %s", told(listHad), toldBytes(bytesHad), told(listRoom), toldBytes(bytesRoom))
			}
		}
	}
}

// P16.3: what is answered is new memory, each time, also where nothing is put behind what was handed in.
func TestWhatIsAnsweredIsNewMemory(t *testing.T) {
	for _, c := range columns() {
		wantPut := []byte("ahead" + c.bytes)
		head, _ := roomy([]byte("ahead"), 0x55)
		l, b := slices.Clone(c.cells), []byte(c.bytes)
		firstPut, _ := Put(head, c.of, l)
		firstGot, _, _ := Get(b, c.of, len(l))
		for range 3 {
			put, _ := Put(head, c.of, l)
			got, _, _ := Get(b, c.of, len(l))
			if !slices.Equal(put, wantPut) || !slices.Equal(got, c.cells) {
				t.Fatalf("of %s: %s, %s", told(c.cells), toldBytes(put), told(got))
			}
			spoil(put, 0xaa)
			spoil(got, api.Cell{S: "spoilt"})
		}
		spoil(head, 0xbb)
		spoil(b, 0xbb)
		spoil(l, api.Cell{S: "handed in"})
		if !slices.Equal(firstPut, wantPut) || !slices.Equal(firstGot, c.cells) {
			t.Errorf("of %s, what was answered is what had been, or what was handed in: %s, %s", told(c.cells), toldBytes(firstPut), told(firstGot))
		}
	}
}
