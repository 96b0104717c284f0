package cell

import (
	"encoding/json"
	"fmt"
	"math"
	"math/big"
	"math/rand/v2"
	"regexp"
	"strings"
	"testing"
	"unicode/utf8"

	"millstream/api"
)

// wordMay is whether a type may be.
func wordMay(t api.Type) bool {
	return 1 <= t.Kind && t.Kind <= 5
}

// wordIs is the chapter's table of the cells of a type that may be.
func wordIs(t api.Type, c api.Cell) bool {
	if c.Null {
		return t.Null && c.N == 0 && c.S == ""
	}
	switch t.Kind {
	case api.TBool:
		return (c.N == 0 || c.N == 1) && c.S == ""
	case api.TInt32:
		return -2147483648 <= c.N && c.N <= 2147483647 && c.S == ""
	case api.TInt64:
		return c.S == ""
	case api.TString:
		return c.N == 0 && len(c.S) <= 1024 && utf8.ValidString(c.S)
	}
	return c.N == 0 && len(c.S) <= 1024
}

// wordCheck is P9.1 of cells.
func wordCheck(t api.Type, c api.Cell) api.Errno {
	switch {
	case !wordMay(t):
		return api.ErrArg
	case !wordIs(t, c):
		return api.ErrCell
	}
	return api.OK
}

// wordCompare is P9.2.
func wordCompare(a, b api.Cell) int {
	switch {
	case a.Null && !b.Null:
		return -1
	case b.Null && !a.Null:
		return 1
	case a.N < b.N:
		return -1
	case a.N > b.N:
		return 1
	}
	for i := range min(len(a.S), len(b.S)) {
		if a.S[i] < b.S[i] {
			return -1
		}
		if a.S[i] > b.S[i] {
			return 1
		}
	}
	return map[bool]int{true: 1}[len(a.S) > len(b.S)] - map[bool]int{true: 1}[len(a.S) < len(b.S)]
}

// wordLiteral is a text's tidy literal, byte by byte, by the words of chapter 4.
func wordLiteral(text string) string {
	short := map[byte]string{'"': `\"`, '\\': `\\`, 0x08: `\b`, 0x0c: `\f`, 0x0a: `\n`, 0x0d: `\r`, 0x09: `\t`}
	var s strings.Builder
	for i := range len(text) {
		c := text[i]
		switch escape, is := short[c]; {
		case is:
			s.WriteString(escape)
		case c < 0x20:
			fmt.Fprintf(&s, `\u00%02x`, c)
		default:
			s.WriteByte(c)
		}
	}
	return `"` + s.String() + `"`
}

// wordText is the text of a cell of a type.
func wordText(t api.Type, c api.Cell) string {
	switch {
	case c.Null:
		return "null"
	case t.Kind == api.TBool:
		return []string{"false", "true"}[c.N]
	case t.Kind == api.TString:
		return wordLiteral(c.S)
	case t.Kind == api.TBytes:
		return fmt.Sprintf("x%x", c.S)
	}
	return fmt.Sprintf("%d", c.N)
}

var (
	wholeTexts = regexp.MustCompile(`^(0|-?[1-9][0-9]*)$`)
	bytesTexts = regexp.MustCompile(`^x([0-9a-f][0-9a-f])*$`)
)

// wordRead is the cell of a type that may be, of which a text is; false: of none.
func wordRead(t api.Type, s string) (c api.Cell, ok bool) {
	if t.Null && s == "null" {
		return api.Cell{Null: true}, true
	}
	switch t.Kind {
	case api.TBool:
		c.N = map[string]int64{"true": 1}[s]
		ok = s == "true" || s == "false"
	case api.TInt32, api.TInt64:
		n, _ := new(big.Int).SetString(s, 10)
		ok = wholeTexts.MatchString(s) && n.IsInt64()
		if ok {
			c.N = n.Int64()
		}
	case api.TString:
		ok = json.Unmarshal([]byte(s), &c.S) == nil && wordLiteral(c.S) == s
	case api.TBytes:
		ok = bytesTexts.MatchString(s)
		if ok {
			fmt.Sscanf(s, "x%x", &c.S)
		}
	}
	if !ok || !wordIs(t, c) {
		return api.Cell{}, false
	}
	return c, true
}

// wordBits are the bits of a cell of a type.
func wordBits(t api.Type, c api.Cell) string {
	switch {
	case c.Null:
		return "\x00"
	case t.Null:
		return "\x01" + wordBits(api.Type{Kind: t.Kind}, c)
	case t.Kind == api.TBool:
		return string([]byte{byte(c.N)})
	case t.Kind == api.TInt32 || t.Kind == api.TInt64:
		n := new(big.Int).Lsh(big.NewInt(1), 63)
		return string(n.Add(n, big.NewInt(c.N)).FillBytes(make([]byte, 8)))
	}
	bits := ""
	for i := range len(c.S) {
		bits += c.S[i : i+1]
		if c.S[i] == 0 {
			bits += "\xff"
		}
	}
	return bits + "\x00\x00"
}

// wordWhole is the cell whose bits a text is, all of it, be the number one of int32 or not, and the bytes UTF-8 or not; false: of none.
func wordWhole(t api.Type, s string) (c api.Cell, ok bool) {
	if t.Null && s == "\x00" {
		return api.Cell{Null: true}, true
	}
	if t.Null {
		inner, there := strings.CutPrefix(s, "\x01")
		if !there {
			return api.Cell{}, false
		}
		return wordWhole(api.Type{Kind: t.Kind}, inner)
	}
	loose := map[int]int{api.TBool: api.TBool, api.TInt32: api.TInt64, api.TInt64: api.TInt64, api.TString: api.TBytes, api.TBytes: api.TBytes}[t.Kind]
	switch loose {
	case api.TBool:
		c.N = map[string]int64{"\x01": 1}[s]
	case api.TInt64:
		n := new(big.Int).SetBytes([]byte(s))
		n.Sub(n, new(big.Int).Lsh(big.NewInt(1), 63))
		if n.IsInt64() {
			c.N = n.Int64()
		}
	case api.TBytes:
		c.S = strings.ReplaceAll(strings.TrimSuffix(s, "\x00\x00"), "\x00\xff", "\x00")
	}
	t.Kind = loose
	if !wordIs(t, c) || wordBits(t, c) != s {
		return api.Cell{}, false
	}
	return c, true
}

// wordGoesOn tells whether some bytes make bits of the beginning of some. If any do, some 00 do: they fill up a number, end a run of bytes, and are false and nothing.
func wordGoesOn(t api.Type, begun string) bool {
	for many := range 10 {
		if _, ok := wordWhole(t, begun+strings.Repeat("\x00", many)); ok {
			return true
		}
	}
	return false
}

// wordUnbits is P9.5, byte by byte.
func wordUnbits(t api.Type, s string) (c api.Cell, n int, e api.Errno) {
	if !wordMay(t) {
		return api.Cell{}, 0, api.ErrArg
	}
	for n := range len(s) + 1 {
		c, whole := wordWhole(t, s[:n])
		switch {
		case whole && !wordIs(t, c):
			return api.Cell{}, 0, api.ErrForm
		case whole:
			return c, n, api.OK
		case !wordGoesOn(t, s[:n]):
			return api.Cell{}, 0, api.ErrForm
		}
	}
	return api.Cell{}, 0, api.ErrTrunc
}

// typesThatMay are all of them.
func typesThatMay() []api.Type {
	var l []api.Type
	for _, kind := range []int{api.TBool, api.TInt32, api.TInt64, api.TString, api.TBytes} {
		l = append(l, api.Type{Kind: kind}, api.Type{Kind: kind, Null: true})
	}
	return l
}

// typesThatMayNot are some of them.
func typesThatMayNot() []api.Type {
	var l []api.Type
	for _, kind := range []int{0, 6, 7, -1, -5, 10, 256 + api.TBool, 1<<32 + api.TInt32, math.MinInt, math.MaxInt} {
		l = append(l, api.Type{Kind: kind}, api.Type{Kind: kind, Null: true})
	}
	return l
}

func someTypes() []api.Type {
	return append(typesThatMay(), typesThatMayNot()...)
}

// scatter answers numbers below a limit that lie scattered, the same ones in each run.
func scatter() func(below int) int {
	return rand.New(rand.NewPCG(9, 9)).IntN
}

// someNumbers are such at the ends of what there is, round them, and scattered ones.
func someNumbers() []int64 {
	l := []int64{math.MinInt64, math.MinInt64 + 1, math.MaxInt64 - 1, math.MaxInt64}
	for _, n := range []int64{0, 10, -10, 255, -255, 65536, -65536, math.MinInt32, math.MaxInt32, math.MaxUint32, -math.MaxUint32, 1 << 53, -1 << 53, 1e18} {
		l = append(l, n-1, n, n+1)
	}
	next := scatter()
	for i := range 64 {
		n := int64(1)<<i + int64(next(1<<i&math.MaxInt64|1))
		l = append(l, n, -n)
	}
	return l
}

// someRuns are runs of bytes, UTF-8 and others, short ones and such of about as many bytes as may be.
func someRuns() []string {
	l := []string{
		"", "a", "b", "ab", "aa", "A", " ", "/", "\"", "\\", "a\"b", "\n", "\b\f\r\t", "\x7f", "null", "true", "0", "-1", "x", "x00", "\\u0000",
		"\x00", "\x00\x00", "\x00\xff", "\xff", "\xff\x00", "a\x00", "a\x00b", "a\x01", "\x01", "\x00\x01", "\x1f", "\x00a", "\x00\x00\x00",
		"\u0080", "\u00e4", "\u00e5", "\u20ac", "\u2028", "\ufffd", "\uffff", "\U0001f600", "\U0010ffff", "\u00e4\x00\u00e4",
		"\x80", "\xc3", "\xc3\x00\xa4", "\xc0\x80", "\xed\xa0\x80", "\xf4\x90\x80\x80", "a\xff", "\u00e4\xc3", "\xe2\x82",
	}
	for _, many := range []int{1022, 1023, 1024, 1025, 1026, 2048} {
		l = append(l, strings.Repeat("a", many), strings.Repeat("\x00", many), strings.Repeat("\xff", many), strings.Repeat("a", many-1)+"\x00", strings.Repeat("a", many-2)+"\u00e4", strings.Repeat("a", many-1)+"\xc3", strings.Repeat("\x00", many-1)+"b")
	}
	l = append(l, strings.Repeat("\u00e4", 512), strings.Repeat("\u00e4", 513), strings.Repeat("\U0001f600", 256), strings.Repeat("\U0001f600", 256)+"a", strings.Repeat("\u20ac", 341), strings.Repeat("\u20ac", 342))
	next := scatter()
	units := []string{"\x00", "\x01", "a", "\"", "\xff", "\u00e4", "\U0001f600"}
	for i := range 60 {
		run := ""
		for range i%7 + 1 {
			run += units[next(len(units))]
		}
		l = append(l, run)
	}
	return l
}

// anyCells are cells of some types, and of none.
func anyCells() []api.Cell {
	var l []api.Cell
	for _, null := range []bool{false, true} {
		for _, n := range someNumbers() {
			l = append(l, api.Cell{Null: null, N: n}, api.Cell{Null: null, N: n, S: "a"})
		}
		for _, s := range someRuns() {
			l = append(l, api.Cell{Null: null, S: s}, api.Cell{Null: null, N: 1, S: s})
		}
	}
	return l
}

// cellsOf are cells of a type, each once.
func cellsOf(t api.Type) []api.Cell {
	var l []api.Cell
	had := map[api.Cell]bool{}
	for _, c := range anyCells() {
		if wordIs(t, c) && !had[c] {
			had[c] = true
			l = append(l, c)
		}
	}
	return l
}

// eachText does something with each text of at most so many of some pieces.
func eachText(pieces []string, most int, do func(s string)) {
	do("")
	if most == 0 {
		return
	}
	eachText(pieces, most-1, func(s string) {
		for _, piece := range pieces {
			do(piece + s)
		}
	})
}

// short is a text for telling it, be it ever so long.
func short(s string) string {
	if len(s) > 80 {
		return fmt.Sprintf("%.40q .. %q (%d bytes)", s, s[len(s)-40:], len(s))
	}
	return fmt.Sprintf("%q", s)
}

// told is a cell for telling it.
func told(c api.Cell) string {
	return fmt.Sprintf("{%v %d %s}", c.Null, c.N, short(c.S))
}

func wantCheck(t *testing.T, of api.Type, c api.Cell, e api.Errno) {
	t.Helper()
	if got := Check(of, c); got != e {
		t.Errorf("Check(%v, %s): %d; not %d", of, told(c), got, e)
	}
}

func wantCompare(t *testing.T, a, b api.Cell, want int) {
	t.Helper()
	if got := Compare(a, b); got != want {
		t.Errorf("Compare(%s, %s): %d; not %d", told(a), told(b), got, want)
	}
}

func wantText(t *testing.T, of api.Type, c api.Cell, want string, e api.Errno) {
	t.Helper()
	if got, gotE := Text(of, c); got != want || gotE != e {
		t.Errorf("Text(%v, %s): %s, %d; not %s, %d", of, told(c), short(got), gotE, short(want), e)
	}
}

func wantRead(t *testing.T, of api.Type, s string, want api.Cell, e api.Errno) {
	t.Helper()
	if got, gotE := Read(of, s); got != want || gotE != e {
		t.Errorf("Read(%v, %s): %s, %d; not %s, %d", of, short(s), told(got), gotE, told(want), e)
	}
}

func wantBits(t *testing.T, of api.Type, c api.Cell, want string, e api.Errno) {
	t.Helper()
	if got, gotE := Bits(of, c); got != want || gotE != e {
		t.Errorf("Bits(%v, %s): %s, %d; not %s, %d", of, told(c), short(got), gotE, short(want), e)
	}
}

func wantUnbits(t *testing.T, of api.Type, s string, want api.Cell, n int, e api.Errno) {
	t.Helper()
	if got, gotN, gotE := Unbits(of, s); got != want || gotN != n || gotE != e {
		t.Errorf("Unbits(%v, %s): %s, %d, %d; not %s, %d, %d", of, short(s), told(got), gotN, gotE, told(want), n, e)
	}
}

// wantReadOfTheWords holds Read against the document's words, and answers whether there is a cell.
func wantReadOfTheWords(t *testing.T, of api.Type, s string) bool {
	t.Helper()
	c, ok := wordRead(of, s)
	if ok {
		wantRead(t, of, s, c, api.OK)
	} else {
		wantRead(t, of, s, api.Cell{}, api.ErrForm)
	}
	return ok
}

// wantUnbitsOfTheWords holds Unbits against the document's words, and answers the error that these tell.
func wantUnbitsOfTheWords(t *testing.T, of api.Type, s string) api.Errno {
	t.Helper()
	c, n, e := wordUnbits(of, s)
	wantUnbits(t, of, s, c, n, e)
	return e
}
