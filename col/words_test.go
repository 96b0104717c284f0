package col

import (
	"fmt"
	"math"
	"math/rand/v2"
	"slices"
	"strings"
	"testing"
	"unicode/utf8"

	"millstream/api"
	"millstream/dict"
	"millstream/leb"
	"millstream/mask"
)

var (
	aBool   = api.Type{Kind: api.TBool}
	anInt32 = api.Type{Kind: api.TInt32}
	anInt64 = api.Type{Kind: api.TInt64}
	aString = api.Type{Kind: api.TString}
	someOf  = api.Type{Kind: api.TBytes}

	maybeBool   = api.Type{Kind: api.TBool, Null: true}
	maybeInt32  = api.Type{Kind: api.TInt32, Null: true}
	maybeInt64  = api.Type{Kind: api.TInt64, Null: true}
	maybeString = api.Type{Kind: api.TString, Null: true}
	maybeSomeOf = api.Type{Kind: api.TBytes, Null: true}

	nothing = api.Cell{Null: true}
)

// typesThatMay are all of them.
func typesThatMay() []api.Type {
	return []api.Type{aBool, anInt32, anInt64, aString, someOf, maybeBool, maybeInt32, maybeInt64, maybeString, maybeSomeOf}
}

// typesThatMayNot are some of them.
func typesThatMayNot() []api.Type {
	var l []api.Type
	for _, kind := range []int{0, 6, 7, -1, -5, 9, 256 + api.TBool, 1<<32 + api.TInt32, math.MinInt, math.MaxInt} {
		l = append(l, api.Type{Kind: kind}, api.Type{Kind: kind, Null: true})
	}
	return l
}

// nums are cells of bools, or whole numbers; runs of strings, or bytes.
func nums(l ...int64) []api.Cell {
	var c []api.Cell
	for _, n := range l {
		c = append(c, api.Cell{N: n})
	}
	return c
}

func runs(l ...string) []api.Cell {
	var c []api.Cell
	for _, s := range l {
		c = append(c, api.Cell{S: s})
	}
	return c
}

// wordIs is the table of the cells of a type that may be, in the chapter of cells.
func wordIs(t api.Type, c api.Cell) bool {
	if c.Null {
		return t.Null && c.N == 0 && c.S == ""
	}
	switch t.Kind {
	case api.TBool:
		return (c.N == 0 || c.N == 1) && c.S == ""
	case api.TInt32:
		return -2147483648 <= c.N && c.N <= 2147483647 && c.S == ""
	case api.TInt64:
		return c.S == ""
	case api.TString:
		return c.N == 0 && len(c.S) <= 1024 && utf8.ValidString(c.S)
	}
	return c.N == 0 && len(c.S) <= 1024
}

// wordPut is P16.1, piece by piece.
func wordPut(b []byte, t api.Type, l []api.Cell) ([]byte, api.Errno) {
	if t.Kind < 1 || t.Kind > 5 {
		return nil, 2
	}
	var bits, bools []bool
	var numbers, lengths []byte
	var texts []string
	for _, c := range l {
		if !wordIs(t, c) {
			return nil, 90
		}
		bits = append(bits, !c.Null)
		if c.Null {
			continue
		}
		bools = append(bools, c.N != 0)
		texts = append(texts, c.S)
		numbers = append(numbers, leb.PutInt(nil, c.N)...)
		lengths = append(append(lengths, leb.Put(nil, uint64(len(c.S)))...), c.S...)
	}
	put := append([]byte{}, b...)
	if t.Null {
		put = append(put, mask.Pack(bits)...)
	}
	switch t.Kind {
	case api.TBool:
		return append(put, mask.Pack(bools)...), 0
	case api.TString:
		return dict.Put(put, texts), 0
	case api.TBytes:
		return append(put, lengths...), 0
	}
	return append(put, numbers...), 0
}

// wordGet is P16.2, sentence by sentence.
func wordGet(b []byte, t api.Type, n int) ([]api.Cell, int, api.Errno) {
	if t.Kind < 1 || t.Kind > 5 {
		return nil, 0, 2
	}
	if n < 0 || n > 1048576 {
		return nil, 0, 6
	}
	if !t.Null {
		return wordThose(b, t.Kind, n)
	}
	bits, size, e := mask.Unpack(b, n)
	if e != 0 {
		return nil, 0, e
	}
	those, more, e := wordThose(b[size:], t.Kind, mask.Count(bits))
	if e != 0 {
		return nil, 0, e
	}
	for place, bit := range bits {
		if !bit {
			those = slices.Insert(those, place, nothing)
		}
	}
	return those, size + more, 0
}

// wordThose is the second part of P16.2.
func wordThose(b []byte, kind, n int) ([]api.Cell, int, api.Errno) {
	switch kind {
	case api.TBool:
		return wordBools(b, n)
	case api.TString:
		return wordTexts(b, n)
	}
	var l []api.Cell
	left := b
	for len(l) < n {
		if kind == api.TBytes {
			many, size, e := leb.Get(left)
			switch {
			case e != 0:
				return nil, 0, e
			case many >= 1025:
				return nil, 0, 5
			case many > uint64(len(left[size:])):
				return nil, 0, 3
			}
			left = left[size:]
			l, left = append(l, api.Cell{S: string(left[:many])}), left[many:]
			continue
		}
		number, size, e := leb.GetInt(left)
		switch {
		case e != 0:
			return nil, 0, e
		case kind == api.TInt32 && (number < -2147483648 || number > 2147483647):
			return nil, 0, 90
		}
		l, left = append(l, api.Cell{N: number}), left[size:]
	}
	return l, len(b) - len(left), 0
}

func wordBools(b []byte, n int) ([]api.Cell, int, api.Errno) {
	bools, size, e := mask.Unpack(b, n)
	var l []api.Cell
	for _, is := range bools {
		l = append(l, api.Cell{N: map[bool]int64{true: 1}[is]})
	}
	return l, size, e
}

func wordTexts(b []byte, n int) ([]api.Cell, int, api.Errno) {
	texts, size, e := dict.Get(b, n, 1024)
	if e != 0 {
		return nil, 0, e
	}
	var l []api.Cell
	for _, text := range texts {
		if !utf8.ValidString(text) {
			return nil, 0, 90
		}
		l = append(l, api.Cell{S: text})
	}
	return l, size, 0
}

// eachList hands over all lists of up to so many of these.
func eachList[T any](of []T, most int, do func(l []T)) {
	var grow func(l []T)
	grow = func(l []T) {
		do(slices.Clone(l))
		if len(l) == most {
			return
		}
		for _, one := range of {
			grow(append(slices.Clone(l), one))
		}
	}
	grow(nil)
}

// scatter answers numbers below a limit that lie scattered, the same ones in each run.
func scatter() func(below int) int {
	return rand.New(rand.NewPCG(16, 16)).IntN
}

// scatteredText is of any bytes; as UTF-8 it is made of runes of all sizes.
func scatteredText(next func(below int) int, isUtf bool) string {
	var text strings.Builder
	for range next(1 + next(6)) {
		if isUtf {
			text.WriteRune([]rune{0, 'a', 0x7f, 0xe4, 0x20ac, 0xfffd, 0x1f600}[next(7)])
		} else {
			text.WriteByte(byte(next(256)))
		}
	}
	if next(200) == 0 {
		text.WriteString(strings.Repeat("x", 1024-text.Len()-next(2)))
	}
	return text.String()
}

// scatteredCell is one of a type.
func scatteredCell(next func(below int) int, t api.Type) api.Cell {
	if t.Null && next(3) == 0 {
		return nothing
	}
	switch t.Kind {
	case api.TBool:
		return api.Cell{N: int64(next(2))}
	case api.TInt32:
		return api.Cell{N: int64(int32(next(1<<32)) >> next(32))}
	case api.TInt64:
		return api.Cell{N: int64(next(1<<32)<<32|next(1<<32)) >> next(64)}
	}
	return api.Cell{S: scatteredText(next, t.Kind == api.TString)}
}

// scatteredCells are so many of a type, of which some come again and again.
func scatteredCells(next func(below int) int, t api.Type, many int) []api.Cell {
	l := make([]api.Cell, many)
	for i := range l {
		if i > 0 && next(2) == 0 {
			l[i] = l[next(i)]
			continue
		}
		l[i] = scatteredCell(next, t)
	}
	return l
}

// short is a text for telling it, be it ever so long.
func short(s string) string {
	if len(s) > 20 {
		return fmt.Sprintf("%.10q .. (%d bytes)", s, len(s))
	}
	return fmt.Sprintf("%q", s)
}

// told is a text for a list, of a long one its beginning.
func told(l []api.Cell) string {
	text := fmt.Sprintf("(%d)", len(l))
	for _, c := range l[:min(len(l), 12)] {
		text += fmt.Sprintf(" {%v %d %s}", c.Null, c.N, short(c.S))
	}
	return text
}

func toldBytes(b []byte) string {
	return fmt.Sprintf("(%d) % x", len(b), b[:min(len(b), 40)])
}

func wantPut(t *testing.T, b []byte, of api.Type, l []api.Cell, want []byte, wantE api.Errno) {
	t.Helper()
	put, e := Put(b, of, l)
	if !slices.Equal(put, want) || e != wantE {
		t.Fatalf("Put of %s, %v, %s: %s, %d, not %s, %d", toldBytes(b), of, told(l), toldBytes(put), e, toldBytes(want), wantE)
	}
}

func wantGet(t *testing.T, b []byte, of api.Type, n int, want []api.Cell, wantSize int, wantE api.Errno) {
	t.Helper()
	l, size, e := Get(b, of, n)
	if !slices.Equal(l, want) || size != wantSize || e != wantE {
		t.Fatalf("Get of %s, %v, %d: %s, %d, %d, not %s, %d, %d", toldBytes(b), of, n, told(l), size, e, told(want), wantSize, wantE)
	}
}

// wantPutOfTheWords holds Put against that of the words, whose error is answered.
func wantPutOfTheWords(t *testing.T, b []byte, of api.Type, l []api.Cell) api.Errno {
	t.Helper()
	put, e := wordPut(b, of, l)
	wantPut(t, b, of, l, put, e)
	return e
}

// wantGetOfTheWords holds Get against that of the words, whose error is answered.
func wantGetOfTheWords(t *testing.T, b []byte, of api.Type, n int) api.Errno {
	t.Helper()
	l, size, e := wordGet(b, of, n)
	wantGet(t, b, of, n, l, size, e)
	return e
}

// put is what Put writes of cells that are of their type.
func put(t *testing.T, of api.Type, l []api.Cell) []byte {
	t.Helper()
	b, e := Put(nil, of, l)
	if e != api.OK {
		t.Fatalf("Put of %v, %s: %d", of, told(l), e)
	}
	return b
}
