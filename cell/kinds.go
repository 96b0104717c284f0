package cell

import (
	"strconv"
	"strings"

	"millstream/api"
	"millstream/utf"
)

// The kinds, counted as those of api are.
const (
	noKind = iota
	boolKind
	int32Kind
	int64Kind
	stringKind
	bytesKind
	manyKinds
)

// kind is what one kind can do with cells that are not nothing.
type kind struct {
	is   func(c api.Cell) bool
	text func(c api.Cell) string
	// The cell that has a text, if there is one. Else it is any cell: that its text is another one is for the caller to see.
	guess func(s string) api.Cell
	bits  func(c api.Cell) string
	// The cell whose bits a text begins with, and how many bytes these have. That the cell is of the kind is for the caller to see.
	take func(s string) (c api.Cell, n int, e api.Errno)
}

// kindOf is the kind of a type that may be.
func kindOf(t api.Type) kind {
	return [manyKinds]kind{
		boolKind:   {isBool, boolText, guessBool, boolBits, takeBool},
		int32Kind:  {isInt32, wholeText, guessWhole, wholeBits, takeWhole},
		int64Kind:  {isInt64, wholeText, guessWhole, wholeBits, takeWhole},
		stringKind: {isString, utfText, guessUtf, runBits, takeRun},
		bytesKind:  {isBytes, bytesText, guessBytes, runBits, takeRun},
	}[t.Kind]
}

func isBool(c api.Cell) bool {
	return c == api.Cell{N: c.N & 1}
}

func isInt32(c api.Cell) bool {
	return c == api.Cell{N: int64(int32(c.N))}
}

func isInt64(c api.Cell) bool {
	return c == api.Cell{N: c.N}
}

func isString(c api.Cell) bool {
	return isBytes(c) && utf.Valid(c.S)
}

func isBytes(c api.Cell) bool {
	return c == api.Cell{S: c.S} && len(c.S) <= api.MaxCell
}

func boolText(c api.Cell) string {
	return strconv.FormatBool(c.N == 1)
}

func guessBool(s string) api.Cell {
	if s == "true" {
		return api.Cell{N: 1}
	}
	return api.Cell{}
}

func wholeText(c api.Cell) string {
	return strconv.FormatInt(c.N, 10)
}

func guessWhole(s string) api.Cell {
	n, _ := strconv.ParseInt(s, 10, 64)
	return api.Cell{N: n}
}

func utfText(c api.Cell) string {
	// There is no error: what is of the kind is UTF-8.
	literal, _ := utf.Quote(c.S)
	return literal
}

func guessUtf(s string) api.Cell {
	text, _, _ := utf.Unquote(s)
	return api.Cell{S: text}
}

const (
	bytesBegin = "x"
	digits     = "0123456789abcdef"
)

func bytesText(c api.Cell) string {
	var text strings.Builder
	text.WriteString(bytesBegin)
	for i := range len(c.S) {
		text.WriteByte(digits[c.S[i]/16])
		text.WriteByte(digits[c.S[i]%16])
	}
	return text.String()
}

func guessBytes(s string) api.Cell {
	rest := strings.TrimPrefix(s, bytesBegin)
	var run strings.Builder
	for ; len(rest) >= 2; rest = rest[2:] {
		high, low := strings.IndexByte(digits, rest[0]), strings.IndexByte(digits, rest[1])
		run.WriteByte(byte(high*16 + low))
	}
	return api.Cell{S: run.String()}
}
