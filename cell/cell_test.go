package cell

import (
	"math"
	"strings"
	"testing"

	"millstream/api"
)

var (
	aBool   = api.Type{Kind: api.TBool}
	anInt32 = api.Type{Kind: api.TInt32}
	anInt64 = api.Type{Kind: api.TInt64}
	aString = api.Type{Kind: api.TString}
	someOf  = api.Type{Kind: api.TBytes}

	maybeBool   = api.Type{Kind: api.TBool, Null: true}
	maybeInt32  = api.Type{Kind: api.TInt32, Null: true}
	maybeInt64  = api.Type{Kind: api.TInt64, Null: true}
	maybeString = api.Type{Kind: api.TString, Null: true}
	maybeSomeOf = api.Type{Kind: api.TBytes, Null: true}

	nothing = api.Cell{Null: true}
)

// num is a cell of a bool, or a whole number; run one of a string, or bytes.
func num(n int64) api.Cell  { return api.Cell{N: n} }
func run(s string) api.Cell { return api.Cell{S: s} }

// The kinds are counted as in package api.
func TestKindsAreThoseOfApi(t *testing.T) {
	got := []int{noKind, boolKind, int32Kind, int64Kind, stringKind, bytesKind, manyKinds}
	for i, want := range []int{0, api.TBool, api.TInt32, api.TInt64, api.TString, api.TBytes, 6} {
		if got[i] != want {
			t.Errorf("%d: %d", want, got[i])
		}
	}
}

// P9.2 to P9.5: the chapter's examples.
func TestExamples(t *testing.T) {
	wantText(t, anInt32, num(-5), "-5", api.OK)
	wantText(t, aBool, num(1), "true", api.OK)
	wantText(t, maybeString, nothing, "null", api.OK)
	wantText(t, aString, run(`a"b`), `"a\"b"`, api.OK)
	wantText(t, someOf, run("\x00\xff"), "x00ff", api.OK)
	wantText(t, aBool, num(2), "", api.ErrCell)
	wantText(t, anInt32, num(1<<31), "", api.ErrCell)
	wantText(t, aString, run("\xff"), "", api.ErrCell)
	wantText(t, aBool, nothing, "", api.ErrCell)
	wantRead(t, anInt64, "007", api.Cell{}, api.ErrForm)
	wantRead(t, someOf, "xF0", api.Cell{}, api.ErrForm)
	wantRead(t, aBool, "null", api.Cell{}, api.ErrForm)
	wantRead(t, maybeInt32, "-0", api.Cell{}, api.ErrForm)
	wantBits(t, anInt32, num(-1), "\x7f\xff\xff\xff\xff\xff\xff\xff", api.OK)
	wantBits(t, maybeInt64, num(1), "\x01\x80\x00\x00\x00\x00\x00\x00\x01", api.OK)
	wantBits(t, maybeBool, nothing, "\x00", api.OK)
	wantBits(t, someOf, run("a\x00"), "\x61\x00\xff\x00\x00", api.OK)
	wantUnbits(t, aString, "\x61\x00\x00\x62", run("a"), 3, api.OK)
	wantUnbits(t, aString, "\x61\x00", api.Cell{}, 0, api.ErrTrunc)
	wantUnbits(t, aString, "\x61\x00\x01", api.Cell{}, 0, api.ErrForm)
	wantUnbits(t, aString, "\xff\x00\x00", api.Cell{}, 0, api.ErrForm)
	wantCompare(t, nothing, num(-9), -1)
	wantCompare(t, num(3), num(2), 1)
	wantCompare(t, run("a"), run("ab"), -1)
}

// P9.1: types of the five kinds may be, with nothing or without, and no other ones.
func TestMay(t *testing.T) {
	for _, of := range typesThatMay() {
		if !May(of) {
			t.Errorf("%v may not be", of)
		}
	}
	for _, of := range typesThatMayNot() {
		if May(of) {
			t.Errorf("%v may be", of)
		}
	}
}

// P9.1: Check at the edges of each kind.
func TestCheckAtTheEdges(t *testing.T) {
	for _, c := range []struct {
		of   api.Type
		cell api.Cell
		e    api.Errno
	}{
		{aBool, num(0), api.OK}, {aBool, num(1), api.OK}, {aBool, num(2), api.ErrCell}, {aBool, num(3), api.ErrCell}, {aBool, num(-1), api.ErrCell}, {aBool, num(math.MinInt64), api.ErrCell},
		{anInt32, num(math.MinInt32), api.OK}, {anInt32, num(math.MaxInt32), api.OK}, {anInt32, num(math.MinInt32 - 1), api.ErrCell}, {anInt32, num(math.MaxInt32 + 1), api.ErrCell}, {anInt32, num(1 << 32), api.ErrCell}, {anInt32, num(math.MaxInt64), api.ErrCell},
		{anInt64, num(math.MinInt64), api.OK}, {anInt64, num(math.MaxInt64), api.OK},
		{aString, run(""), api.OK}, {aString, run("\x00"), api.OK}, {aString, run(strings.Repeat("\u00e4", 512)), api.OK}, {aString, run(strings.Repeat("\u00e4", 512) + "a"), api.ErrCell}, {aString, run(strings.Repeat("a", 1024)), api.OK}, {aString, run(strings.Repeat("a", 1025)), api.ErrCell},
		{aString, run("a\xff"), api.ErrCell}, {aString, run("\xc3"), api.ErrCell}, {aString, run("\xed\xa0\x80"), api.ErrCell}, {aString, run(strings.Repeat("a", 1023) + "\xc3"), api.ErrCell}, {aString, run("\ufffd"), api.OK},
		{someOf, run(""), api.OK}, {someOf, run("\xff\xc3"), api.OK}, {someOf, run(strings.Repeat("\xff", 1024)), api.OK}, {someOf, run(strings.Repeat("\xff", 1025)), api.ErrCell},
	} {
		maybe := api.Type{Kind: c.of.Kind, Null: true}
		wantCheck(t, c.of, c.cell, c.e)
		wantCheck(t, maybe, c.cell, c.e)
		wantCheck(t, c.of, nothing, api.ErrCell)
		wantCheck(t, maybe, nothing, api.OK)
		c.cell.Null = true
		wantCheck(t, c.of, c.cell, api.ErrCell)
		if c.cell != nothing {
			wantCheck(t, maybe, c.cell, api.ErrCell)
		}
	}
}

// P9.1: what a kind does not name has to be 0, or no bytes.
func TestCheckOfOtherFields(t *testing.T) {
	for _, of := range []api.Type{aBool, anInt32, anInt64, maybeBool, maybeInt32, maybeInt64} {
		wantCheck(t, of, num(1), api.OK)
		wantCheck(t, of, api.Cell{N: 1, S: "a"}, api.ErrCell)
		wantCheck(t, of, run("\x00"), api.ErrCell)
	}
	for _, of := range []api.Type{aString, someOf, maybeString, maybeSomeOf} {
		wantCheck(t, of, run("a"), api.OK)
		wantCheck(t, of, api.Cell{N: 1, S: "a"}, api.ErrCell)
		wantCheck(t, of, num(-1), api.ErrCell)
	}
	for _, of := range typesThatMay() {
		wantCheck(t, of, api.Cell{Null: true, N: 1}, api.ErrCell)
		wantCheck(t, of, api.Cell{Null: true, S: "a"}, api.ErrCell)
	}
}

// P9.1: Check is that of the words, of all sorts of types and cells; what is wrong with the type comes first.
func TestCheckIsThatOfTheWords(t *testing.T) {
	count := map[api.Errno]int{}
	for _, of := range someTypes() {
		for _, c := range anyCells() {
			e := wordCheck(of, c)
			wantCheck(t, of, c, e)
			count[e]++
		}
	}
	if count[api.OK] < 1000 || count[api.ErrCell] < 1000 || count[api.ErrArg] < 1000 {
		t.Errorf("the test is wrong: %v", count)
	}
}

// P9.1: Zero is of its type, if that may be.
func TestZero(t *testing.T) {
	for _, of := range typesThatMay() {
		want := api.Cell{Null: of.Null}
		if got := Zero(of); got != want {
			t.Errorf("Zero(%v): %s", of, told(got))
		}
		wantCheck(t, of, Zero(of), api.OK)
	}
	for _, of := range typesThatMayNot() {
		if got := Zero(of); got != (api.Cell{}) {
			t.Errorf("Zero(%v): %s", of, told(got))
		}
	}
}

// P9.2: nothing is ahead of all, numbers of texts, what ends first of what goes on; bytes are not signed.
func TestCompareOfChosenCells(t *testing.T) {
	rising := []api.Cell{
		nothing, {Null: true, S: "a"}, {Null: true, N: 1}, {Null: true, N: 1, S: "a"},
		num(math.MinInt64), num(math.MinInt64 + 1), num(math.MinInt32), num(-256), num(-1), {N: -1, S: "a"},
		num(0), run("\x00"), run("\x00\x00"), run("\x00\xff"), run("\x01"), run("A"), run("a"), run("a\x00"), run("aa"), run("ab"), run("b"), run("\x7f"), run("\x80"), run("\u00e4"), run("\uffff"), run("\U00010000"), run("\xff"), run("\xff\xff"),
		num(1), {N: 1, S: "a"}, num(2), num(255), num(256), num(math.MaxInt32), num(1 << 32), num(math.MaxInt64 - 1), num(math.MaxInt64),
	}
	for i, a := range rising {
		for j, b := range rising {
			switch {
			case i < j:
				wantCompare(t, a, b, -1)
			case i > j:
				wantCompare(t, a, b, 1)
			default:
				wantCompare(t, a, b, 0)
			}
		}
	}
}

// P9.2: of all cells, of a type or of none: as the words say, and 0 just if they are the same.
func TestCompareIsThatOfTheWords(t *testing.T) {
	cells := anyCells()
	for _, a := range cells {
		for _, b := range cells {
			got := Compare(a, b)
			if got != wordCompare(a, b) || (got == 0) != (a == b) {
				t.Fatalf("Compare(%s, %s): %d", told(a), told(b), got)
			}
		}
	}
}

// P9.3: texts of each kind.
func TestTexts(t *testing.T) {
	for _, c := range []struct {
		of   api.Type
		cell api.Cell
		want string
	}{
		{aBool, num(0), "false"}, {aBool, num(1), "true"},
		{anInt32, num(0), "0"}, {anInt32, num(10), "10"}, {anInt32, num(math.MinInt32), "-2147483648"}, {anInt32, num(math.MaxInt32), "2147483647"},
		{anInt64, num(-1), "-1"}, {anInt64, num(100), "100"}, {anInt64, num(math.MinInt64), "-9223372036854775808"}, {anInt64, num(math.MaxInt64), "9223372036854775807"},
		{aString, run(""), `""`}, {aString, run("null"), `"null"`}, {aString, run("\n\x00\x1f/\\"), `"\n\u0000\u001f/\\"`}, {aString, run("\u00e4\x7f\u2028"), "\"\xc3\xa4\x7f\xe2\x80\xa8\""},
		{someOf, run(""), "x"}, {someOf, run("a"), "x61"}, {someOf, run("\x01\x9a\xbc\xde\xf0"), "x019abcdef0"},
	} {
		maybe := api.Type{Kind: c.of.Kind, Null: true}
		wantText(t, c.of, c.cell, c.want, api.OK)
		wantText(t, maybe, c.cell, c.want, api.OK)
		wantText(t, maybe, nothing, "null", api.OK)
		wantText(t, c.of, nothing, "", api.ErrCell)
	}
	for c := range 256 {
		b := string([]byte{byte(c)})
		wantText(t, someOf, run(b), "x"+string("0123456789abcdef"[c/16])+string("0123456789abcdef"[c%16]), api.OK)
	}
}

// P9.3: bits of each kind.
func TestBits(t *testing.T) {
	for _, c := range []struct {
		of   api.Type
		cell api.Cell
		want string
	}{
		{aBool, num(0), "\x00"}, {aBool, num(1), "\x01"},
		{anInt32, num(0), "\x80\x00\x00\x00\x00\x00\x00\x00"}, {anInt32, num(math.MinInt32), "\x7f\xff\xff\xff\x80\x00\x00\x00"}, {anInt32, num(math.MaxInt32), "\x80\x00\x00\x00\x7f\xff\xff\xff"},
		{anInt64, num(0x0102030405060708), "\x81\x02\x03\x04\x05\x06\x07\x08"}, {anInt64, num(-0x0102030405060708), "\x7e\xfd\xfc\xfb\xfa\xf9\xf8\xf8"}, {anInt64, num(math.MinInt64), "\x00\x00\x00\x00\x00\x00\x00\x00"}, {anInt64, num(math.MaxInt64), "\xff\xff\xff\xff\xff\xff\xff\xff"},
		{aString, run(""), "\x00\x00"}, {aString, run("\x00"), "\x00\xff\x00\x00"}, {aString, run("a\x00\x00b"), "a\x00\xff\x00\xffb\x00\x00"}, {aString, run("\u00e4\x01"), "\xc3\xa4\x01\x00\x00"},
		{someOf, run(""), "\x00\x00"}, {someOf, run("\xff"), "\xff\x00\x00"}, {someOf, run("\x00\xff\x00"), "\x00\xff\xff\x00\xff\x00\x00"}, {someOf, run("\xff\x00"), "\xff\x00\xff\x00\x00"},
	} {
		maybe := api.Type{Kind: c.of.Kind, Null: true}
		wantBits(t, c.of, c.cell, c.want, api.OK)
		wantBits(t, maybe, c.cell, "\x01"+c.want, api.OK)
		wantBits(t, maybe, nothing, "\x00", api.OK)
		wantBits(t, c.of, nothing, "", api.ErrCell)
	}
}

// P9.3: Text and Bits tell Check's error, and else are as the words say, of all sorts of types and cells.
func TestTextAndBitsAreThoseOfTheWords(t *testing.T) {
	for _, of := range someTypes() {
		for _, c := range anyCells() {
			text, bits := "", ""
			e := wordCheck(of, c)
			if e == api.OK {
				text, bits = wordText(of, c), wordBits(of, c)
			}
			wantText(t, of, c, text, e)
			wantBits(t, of, c, bits, e)
		}
	}
}
