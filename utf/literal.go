package utf

import (
	"strings"
	"unicode/utf8"

	"millstream/api"
)

const (
	quote      = '"'
	backslash  = '\\'
	firstPlain = ' ' // runes below have to be escaped

	// Each of the letters, behind a \, says what stands at its place in said.
	letters = `"\bfnrt`
	said    = "\"\\\b\f\n\r\t"
	// This one may be escaped, too, but in a tidy literal it stands as it is.
	slash = "/"

	digits      = "0123456789abcdef"
	numberBegin = `\u` // of an escape by a rune's number
	numberSize  = 6    // bytes of such an escape

	// Numbers that are no runes, but, two by two, halves of the runes that four digits can't say.
	firstHalves  = 0xd800
	secondHalves = 0xdc00
	behindHalves = 0xe000
	manySeconds  = behindHalves - secondHalves
	halvesBegin  = 0x10000 // the least rune that two halves say
)

// Quote is a text as a literal.
func Quote(s string) (string, api.Errno) {
	if !Valid(s) {
		return "", api.ErrUtf
	}
	letterOf := paired(said, letters)
	var literal strings.Builder
	literal.WriteByte(quote)
	for _, r := range s {
		letter, short := letterOf[r]
		switch {
		case short:
			literal.WriteByte(backslash)
			literal.WriteRune(letter)
		case r < firstPlain:
			literal.WriteString(numberBegin)
			literal.WriteString("00")
			literal.WriteByte(digits[r/16])
			literal.WriteByte(digits[r%16])
		default:
			literal.WriteRune(r)
		}
	}
	literal.WriteByte(quote)
	return literal.String(), api.OK
}

// Unquote reads the literal with which a text begins: its text, and how many bytes it has.
func Unquote(s string) (text string, n int, e api.Errno) {
	if s == "" {
		return "", 0, api.ErrTrunc
	}
	if s[0] != quote {
		return "", 0, api.ErrEscape
	}
	saidBy := paired(letters+slash, said+slash)
	var all strings.Builder
	for at := 1; at < len(s); {
		if s[at] == quote {
			return all.String(), at + 1, api.OK
		}
		r, size, e := takePart(s[at:], saidBy)
		if e != api.OK {
			return "", 0, e
		}
		all.WriteRune(r)
		at += size
	}
	return "", 0, api.ErrTrunc
}

// paired holds, for each rune of one text, the one at its place in another. Both have one byte a rune.
func paired(from, to string) map[rune]rune {
	pairs := map[rune]rune{}
	for at, r := range from {
		pairs[r] = rune(to[at])
	}
	return pairs
}

// takePart takes the part with which a text, of one byte at least, begins: the rune that it says, and how many bytes it has.
func takePart(s string, saidBy map[rune]rune) (r rune, size int, e api.Errno) {
	r, size, ok := Next(s)
	switch {
	case r == backslash:
		return takeEscape(s, saidBy)
	case ok && r < firstPlain:
		return 0, 0, api.ErrEscape
	case ok:
		return r, size, api.OK
	case utf8.FullRuneInString(s):
		// The library says so, too, of bytes that become no rune's, whatever follows: just such ones are left here.
		return 0, 0, api.ErrUtf
	}
	return 0, 0, api.ErrTrunc
}

// takeEscape takes a part that begins with \.
func takeEscape(s string, saidBy map[rune]rune) (r rune, size int, e api.Errno) {
	if len(s) == 1 {
		return 0, 0, api.ErrTrunc
	}
	if strings.HasPrefix(s, numberBegin) {
		return takeNumbered(s)
	}
	r, ok := saidBy[rune(s[1])]
	if !ok {
		return 0, 0, api.ErrEscape
	}
	return r, 2, api.OK
}

// takeNumbered takes a part that begins with \u: one escape, or two that are the halves of a rune.
func takeNumbered(s string) (r rune, size int, e api.Errno) {
	first, e := takeNumber(s, canBeFirst)
	if e != api.OK {
		return 0, 0, e
	}
	if first < firstHalves || first >= behindHalves {
		return first, numberSize, api.OK
	}
	second, e := takeNumber(s[numberSize:], canBeSecond)
	if e != api.OK {
		return 0, 0, e
	}
	r = halvesBegin + (first-firstHalves)*manySeconds + (second - secondHalves)
	return r, 2 * numberSize, api.OK
}

// takeNumber takes \u and four digits. Behind each digit it asks whether one of the numbers that may still come, from least to most, can stand there: a digit behind which none can is the first wrong byte, even if the text ends right behind it.
func takeNumber(s string, can func(least, most rune) bool) (rune, api.Errno) {
	rest, begun := strings.CutPrefix(s, numberBegin)
	if !begun {
		if strings.HasPrefix(numberBegin, s) {
			return 0, api.ErrTrunc
		}
		return 0, api.ErrEscape
	}
	least, still := rune(0), rune(1<<16)
	for at := range numberSize - len(numberBegin) {
		if at == len(rest) {
			return 0, api.ErrTrunc
		}
		digit, ok := digitOf(rest[at])
		still /= 16
		least += digit * still
		if !ok || !can(least, least+still-1) {
			return 0, api.ErrEscape
		}
	}
	return least, api.OK
}

// canBeFirst tells whether one of the numbers is no second half.
func canBeFirst(least, most rune) bool {
	return least < secondHalves || most >= behindHalves
}

// canBeSecond tells whether one of the numbers is a second half.
func canBeSecond(least, most rune) bool {
	return most >= secondHalves && least < behindHalves
}

// digitOf is the number that a digit to the base 16 says; false: the byte is none.
func digitOf(c byte) (rune, bool) {
	switch {
	case '0' <= c && c <= '9':
		return rune(c - '0'), true
	case 'a' <= c && c <= 'f':
		return rune(c-'a') + 10, true
	case 'A' <= c && c <= 'F':
		return rune(c-'A') + 10, true
	}
	return 0, false
}
