package utf

import (
	"fmt"
	"regexp"
	"strconv"
	"strings"
	"testing"

	"millstream/api"
)

// wordShort are the short escapes of the document's table, and what they say.
var wordShort = map[string]string{`\"`: "\x22", `\\`: "\x5c", `\/`: "\x2f", `\b`: "\x08", `\f`: "\x0c", `\n`: "\x0a", `\r`: "\x0d", `\t`: "\x09"}

var fourDigits = regexp.MustCompile(`^\\u([0-9a-fA-F]{4})$`)

// wordNumber is the number of an escape of four digits.
func wordNumber(s string) (int, bool) {
	m := fourDigits.FindStringSubmatch(s)
	if m == nil {
		return 0, false
	}
	n, err := strconv.ParseUint(m[1], 16, 16)
	return int(n), err == nil
}

// wordPart is what a text says that is one part, by the document's table, row by row.
func wordPart(s string) (string, bool) {
	if n, size, ok := wordNext(s); ok && size == len(s) && n >= 0x20 && n != '"' && n != '\\' {
		return s, true
	}
	if said, ok := wordShort[s]; ok {
		return said, true
	}
	if n, ok := wordNumber(s); ok && wordRune(n) {
		return wordBytes(n), true
	}
	if len(s) == 12 {
		a, aok := wordNumber(s[:6])
		b, bok := wordNumber(s[6:])
		if aok && bok && 0xd800 <= a && a <= 0xdbff && 0xdc00 <= b && b <= 0xdfff {
			return wordBytes(0x10000 + 0x400*(a-0xd800) + b - 0xdc00), true
		}
	}
	return "", false
}

// wordPartBegins tells whether bytes are a part's beginning: whether some fill them up to one.
func wordPartBegins(s string) bool {
	if s[0] != '\\' {
		return s[0] >= 0x20 && s[0] != '"' && wordBegins(s)
	}
	for _, whole := range []string{`\n`, `\u0000`, `\ud800\udc00`} {
		if len(s) > len(whole) {
			continue
		}
		if _, ok := wordPart(s + whole[len(s):]); ok {
			return true
		}
	}
	return false
}

// wordUnquote is P4.4, byte by byte.
func wordUnquote(s string) (text string, n int, e api.Errno) {
	part := ""
	for i := range len(s) {
		switch {
		case i == 0 && s[0] != '"':
			return "", 0, api.ErrEscape
		case i == 0:
			continue
		case part == "" && s[i] == '"':
			return text, i + 1, api.OK
		}
		inRune := part == "" || part[0] >= 0x80
		part += s[i : i+1]
		said, whole := wordPart(part)
		switch {
		case whole:
			text += said
			part = ""
		case wordPartBegins(part):
		case inRune && part[0] >= 0x80:
			return "", 0, api.ErrUtf
		default:
			return "", 0, api.ErrEscape
		}
	}
	return "", 0, api.ErrTrunc
}

// wordQuote is the tidy literal of a text that is UTF-8, byte by byte.
func wordQuote(s string) string {
	q := `"`
	for i := range len(s) {
		switch c := s[i]; c {
		case '"':
			q += `\"`
		case '\\':
			q += `\\`
		case 0x08:
			q += `\b`
		case 0x0c:
			q += `\f`
		case 0x0a:
			q += `\n`
		case 0x0d:
			q += `\r`
		case 0x09:
			q += `\t`
		default:
			if c < 0x20 {
				q += fmt.Sprintf(`\u%04x`, c)
			} else {
				q += s[i : i+1]
			}
		}
	}
	return q + `"`
}

// spellings are the ways in which a rune may stand in a literal; of the many with digits, those whose letters are all small, or all great, in an escape.
func spellings(n int) []string {
	var l []string
	if n >= 0x20 && n != '"' && n != '\\' {
		l = append(l, wordBytes(n))
	}
	for escape, said := range wordShort {
		if said == wordBytes(n) {
			l = append(l, escape)
		}
	}
	if n < 0x10000 {
		return append(l, fmt.Sprintf(`\u%04x`, n), fmt.Sprintf(`\u%04X`, n))
	}
	high, low := 0xd800+(n-0x10000)/0x400, 0xdc00+(n-0x10000)%0x400
	return append(l, fmt.Sprintf(`\u%04x\u%04x`, high, low), fmt.Sprintf(`\u%04X\u%04X`, high, low), fmt.Sprintf(`\u%04X\u%04x`, high, low))
}

// literals are some of each kind: of each spelling of end runes by themselves, and scattered ones behind each other.
func literals() []string {
	l := []string{`""`}
	var all []string
	for _, n := range endRunes() {
		all = append(all, spellings(n)...)
	}
	for _, part := range all {
		l = append(l, `"`+part+`"`)
	}
	next := scatter()
	for i := range 400 {
		s := `"`
		for range i%6 + 2 {
			s += all[next(len(all))]
		}
		l = append(l, s+`"`)
	}
	return l
}

func wantUnquote(t *testing.T, s, text string, n int, e api.Errno) {
	t.Helper()
	if gt, gn, ge := Unquote(s); gt != text || gn != n || ge != e {
		t.Errorf("Unquote(%q): %q, %d, %d; want %q, %d, %d", s, gt, gn, ge, text, n, e)
	}
}

// wantUnquoteOfTheWords holds Unquote against the document's words, and what it reads against its tidy literal.
func wantUnquoteOfTheWords(t *testing.T, s string) {
	t.Helper()
	text, n, e := wordUnquote(s)
	wantUnquote(t, s, text, n, e)
	if e != api.OK {
		return
	}
	if q, qe := Quote(text); qe != api.OK || len(q) > n {
		t.Errorf("Quote(%q): %q, %d; but %q is shorter", text, q, qe, s[:n])
	}
}

func wantQuote(t *testing.T, s, q string, e api.Errno) {
	t.Helper()
	if gq, ge := Quote(s); gq != q || ge != e {
		t.Errorf("Quote(%q): %s, %d; want %s, %d", s, gq, ge, q, e)
	}
}

// P4.3, P4.4: the chapter's examples.
func TestExamplesOfLiterals(t *testing.T) {
	wantQuote(t, "a\"\\\x0a\x01\xc3\xa4", "\"a\\\"\\\\\\n\\u0001\xc3\xa4\"", api.OK)
	wantUnquote(t, `"\u0041\ud83d\ude00\/"x`, "\x41\xf0\x9f\x98\x80\x2f", 22, api.OK)
	wantUnquote(t, `"a`, "", 0, api.ErrTrunc)
	wantUnquote(t, `"\x"`, "", 0, api.ErrEscape)
	wantUnquote(t, `"\ude00"`, "", 0, api.ErrEscape)
	wantUnquote(t, `"\ud83dx"`, "", 0, api.ErrEscape)
	wantUnquote(t, `"\u00`, "", 0, api.ErrTrunc)
	wantUnquote(t, `x`, "", 0, api.ErrEscape)
	wantUnquote(t, "\"\xff\"", "", 0, api.ErrUtf)
	wantUnquote(t, "", "", 0, api.ErrTrunc)
	wantUnquote(t, "\"\x09\"", "", 0, api.ErrEscape)
}

// P4.3: the tidy literal of each byte below 20.
func TestQuoteOfLowBytes(t *testing.T) {
	want := []string{`\u0000`, `\u0001`, `\u0002`, `\u0003`, `\u0004`, `\u0005`, `\u0006`, `\u0007`,
		`\b`, `\t`, `\n`, `\u000b`, `\f`, `\r`, `\u000e`, `\u000f`,
		`\u0010`, `\u0011`, `\u0012`, `\u0013`, `\u0014`, `\u0015`, `\u0016`, `\u0017`,
		`\u0018`, `\u0019`, `\u001a`, `\u001b`, `\u001c`, `\u001d`, `\u001e`, `\u001f`}
	for c, escape := range want {
		wantQuote(t, string(rune(c)), `"`+escape+`"`, api.OK)
		wantQuote(t, "a"+string(rune(c))+"b", `"a`+escape+`b"`, api.OK)
	}
}

// P4.3: of all other runes the quote and \ alone are escaped, those of one letter ahead of a letter, too.
func TestQuoteOfOtherRunes(t *testing.T) {
	wantQuote(t, "", `""`, api.OK)
	wantQuote(t, "/", `"/"`, api.OK)
	wantQuote(t, "\x7f", "\"\x7f\"", api.OK)
	wantQuote(t, `bfnrtu`, `"bfnrtu"`, api.OK)
	wantQuote(t, `\n\u0041`, `"\\n\\u0041"`, api.OK)
	wantQuote(t, "\xc2\x80\xdf\xbf\xe0\xa0\x80\xe2\x80\xa8\xef\xbf\xbd\xef\xbf\xbf\xf0\x90\x80\x80\xf4\x8f\xbf\xbf",
		"\"\xc2\x80\xdf\xbf\xe0\xa0\x80\xe2\x80\xa8\xef\xbf\xbd\xef\xbf\xbf\xf0\x90\x80\x80\xf4\x8f\xbf\xbf\"", api.OK)
	for n := range lastRune + 1 {
		s := wordBytes(n)
		if !wordRune(n) {
			wantQuote(t, s, "", api.ErrUtf)
		} else if q, e := Quote(s); q != wordQuote(s) || e != api.OK {
			t.Fatalf("Quote(% x): %s, %d", s, q, e)
		}
	}
}

// P4.3: ErrUtf just of what is not UTF-8, wherever it stands; else the tidy literal.
func TestQuoteIsThatOfTheWords(t *testing.T) {
	do := func(s string) {
		if wordValid(s) {
			wantQuote(t, s, wordQuote(s), api.OK)
		} else {
			wantQuote(t, s, "", api.ErrUtf)
		}
	}
	eachBytes(do)
	for _, s := range texts() {
		do(s)
		do(s + "\xff")
		do("\x80" + s)
	}
}

// P4.4: each byte by itself in a literal, with and without an end, and in the literal's place.
func TestUnquoteOfEachByte(t *testing.T) {
	for c := range 256 {
		s := string([]byte{byte(c)})
		text, n, e := s, 3, api.OK
		cut := api.ErrTrunc
		switch {
		case c == '"':
			text, n = "", 2
		case c == '\\': // the quote behind it is escaped by it
			text, n, e = "", 0, api.ErrTrunc
		case c < 0x20:
			text, n, e, cut = "", 0, api.ErrEscape, api.ErrEscape
		case 0x80 <= c && c < 0xc2, c > 0xf4:
			text, n, e, cut = "", 0, api.ErrUtf, api.ErrUtf
		case c >= 0x80:
			text, n, e = "", 0, api.ErrUtf
		}
		wantUnquote(t, `"`+s+`"`, text, n, e)
		if c != '"' {
			wantUnquote(t, `"`+s, "", 0, cut)
			wantUnquote(t, s, "", 0, api.ErrEscape)
			wantUnquote(t, s+`"a"`, "", 0, api.ErrEscape)
			wantUnquote(t, `"ab`+s, "", 0, cut)
		}
	}
}

// P4.4: each byte behind a \.
func TestUnquoteOfEachEscape(t *testing.T) {
	said := map[byte]string{'"': "\x22", '\\': "\x5c", '/': "\x2f", 'b': "\x08", 'f': "\x0c", 'n': "\x0a", 'r': "\x0d", 't': "\x09"}
	for c := range 256 {
		s := `"\` + string([]byte{byte(c)})
		text, ok := said[byte(c)]
		switch {
		case ok:
			wantUnquote(t, s+`"`, text, 4, api.OK)
			wantUnquote(t, s+`x"y`, text+"x", 5, api.OK)
			wantUnquote(t, s, "", 0, api.ErrTrunc)
		case c == 'u':
			wantUnquote(t, s, "", 0, api.ErrTrunc)
			wantUnquote(t, s+`"`, "", 0, api.ErrEscape)
		default:
			wantUnquote(t, s, "", 0, api.ErrEscape)
			wantUnquote(t, s+`"`, "", 0, api.ErrEscape)
			wantUnquote(t, s+"\x80\"", "", 0, api.ErrEscape)
		}
	}
	wantUnquote(t, `"\`, "", 0, api.ErrTrunc)
}

// P4.4: each byte at each place of the digits behind \u, of one escape and of two.
func TestUnquoteOfEachDigit(t *testing.T) {
	for _, whole := range []string{`"\u0041"`, `"\uD7fF"`, `"\ue000"`, `"\uFFFF"`, `"\u0000"`, `"\ud800\udc00"`, `"\uDBFF\uDFFF"`, `"\ud83d\ude00"`} {
		wantUnquoteOfTheWords(t, whole)
		for i := range whole {
			for c := range 256 {
				changed := whole[:i] + string([]byte{byte(c)})
				wantUnquoteOfTheWords(t, changed)
				wantUnquoteOfTheWords(t, changed+whole[i+1:])
				wantUnquoteOfTheWords(t, changed+whole[i:])
			}
		}
	}
	wantUnquote(t, `"\u00fF"`, "\u00ff", 8, api.OK)
	wantUnquote(t, `"\uabcd\uABCD\uef01\uEF01"`, "\uabcd\uabcd\uef01\uef01", 26, api.OK)
	for _, bad := range []string{`"\u/`, `"\u:`, `"\u@`, "\"\\u`", `"\ug`, `"\uG`, `"\u0 `, "\"\\u00\x10", "\"\\u00\x19", `"\u+`, `"\u00-`, `"\u000x`, `"\U`, "\"\\u\xff", "\"\\u000\x80"} {
		wantUnquote(t, bad, "", 0, api.ErrEscape)
		wantUnquote(t, bad+`0000"`, "", 0, api.ErrEscape)
	}
}

// P4.4: every escape of four digits by itself, small and great ones.
func TestUnquoteOfEachNumber(t *testing.T) {
	for n := range 0x10000 {
		for _, form := range []string{`"\u%04x"`, `"\u%04X"`} {
			s := fmt.Sprintf(form, n)
			text, size, e := wordBytes(n), 8, api.OK
			if !wordRune(n) {
				text, size, e = "", 0, api.ErrEscape
			}
			wantUnquote(t, s, text, size, e)
		}
	}
}

// P4.4: halves of a rune: each alone, two of one sort, in the wrong order, with another escape, or none, behind the first one.
func TestUnquoteOfHalves(t *testing.T) {
	for _, high := range []string{`\ud800`, `\ud83d`, `\uDBFF`} {
		wantUnquote(t, `"`+high, "", 0, api.ErrTrunc)
		for _, wrong := range []string{`"`, `x`, `\"`, `\\`, `\/`, `\n`, `\x`, `\u0041`, `\u"`, `\ug`, `\u0`, `\uc`, `\ue`, `\ud8`, `\ud83d`, `\ud83d\ude00`, `\udb`, `\udg`, `\ue000`, `\udcg`, `\udc0g`, "\xc3\xa4", "\xff", "\x80", "\x00", "\\\xff", "\\u\xff", "\\udc\xff", `u`, `udc00`} {
			wantUnquote(t, `"`+high+wrong, "", 0, api.ErrEscape)
			wantUnquote(t, `"`+high+wrong+`"`, "", 0, api.ErrEscape)
		}
		for _, low := range []string{`\udc00`, `\ude00`, `\uDFFF`} {
			for cut := range len(low) {
				wantUnquote(t, `"`+high+low[:cut], "", 0, api.ErrTrunc)
				wantUnquote(t, `"`+high+low[:cut]+`"`, "", 0, api.ErrEscape)
			}
		}
	}
	for _, low := range []string{`\udc`, `\udC`, `\uDe`, `\udf`, `\udc0`, `\udc00`, `\uDFFF`} {
		wantUnquote(t, `"`+low, "", 0, api.ErrEscape)
		wantUnquote(t, `"`+low+`"`, "", 0, api.ErrEscape)
		wantUnquote(t, `"`+low+`\ud83d"`, "", 0, api.ErrEscape)
		wantUnquote(t, `"\ud83d\ude00`+low, "", 0, api.ErrEscape)
	}
	wantUnquote(t, `"\ud`, "", 0, api.ErrTrunc)
	wantUnquote(t, `"\uD`, "", 0, api.ErrTrunc)
	wantUnquote(t, `"\ud800\udc00\uDBFF\uDFFF"`, "\U00010000\U0010ffff", 26, api.OK)
}

// P4.4: every pair of halves at its ends, and scattered ones, says the rune of the table.
func TestUnquoteOfPairs(t *testing.T) {
	do := func(high, low int) {
		s := fmt.Sprintf(`"\u%04x\u%04X"`, high, low)
		text, n, e := "", 0, api.ErrEscape
		if 0xd800 <= high && high <= 0xdbff && 0xdc00 <= low && low <= 0xdfff {
			text, n, e = wordBytes(0x10000+0x400*(high-0xd800)+low-0xdc00), 14, api.OK
		}
		wantUnquote(t, s, text, n, e)
	}
	for high := 0xd800; high <= 0xdfff; high++ {
		for _, low := range []int{0, 0x41, 0xcfff, 0xd000, 0xd7ff, 0xd800, 0xdbff, 0xdc00, 0xdc01, 0xde00, 0xdffe, 0xdfff, 0xe000, 0xffff} {
			do(high, low)
		}
	}
	for low := range 0x10000 {
		do(0xd800+low%0x400, low)
	}
}

// P4.4: bytes that are no rune's: with which none begins, longer spellings, halves, above 10FFFF, broken off behind each byte.
func TestUnquoteOfNoUtf(t *testing.T) {
	for _, bad := range []string{
		"\x80", "\xbf", "\xc0", "\xc1", "\xf5", "\xf8", "\xff", "\xc0\x80", "\xe0\x80", "\xe0\x9f", "\xf0\x80", "\xf0\x8f", "\xed\xa0", "\xed\xbf", "\xf4\x90", "\xf4\xbf",
		"\xc3\"", "\xc3a", "\xc3\\", "\xc3\x00", "\xc3\xc3", "\xc3\xff", "\xe2\"", "\xe2\x82\"", "\xe2\x82a", "\xe2\x82\\", "\xe2\x82\x1f", "\xe2\x82\xe2", "\xf0\x9f\"", "\xf0\x9f\x98\"", "\xf0\x9f\x98\xc0", "\xef\xbf\"",
		"\xe0\x80\x80", "\xf0\x80\x80\x80", "\xed\xa0\x80", "\xed\xb0\x80", "\xf4\x90\x80\x80",
	} {
		for _, ahead := range []string{"", "a", `\n`, `\u0041`, "\xc3\xa4", `\ud83d\ude00`, "\xef\xbf\xbd"} {
			wantUnquote(t, `"`+ahead+bad, "", 0, api.ErrUtf)
			wantUnquote(t, `"`+ahead+bad+`"`, "", 0, api.ErrUtf)
		}
	}
	for _, n := range endRunes() {
		b := wordBytes(n)
		for cut := 1; cut < len(b); cut++ {
			wantUnquote(t, `"`+b[:cut], "", 0, api.ErrTrunc)
			wantUnquote(t, `"`+b[:cut]+`"`, "", 0, api.ErrUtf)
			wantUnquote(t, `"`+b[:cut]+b+`"`, "", 0, api.ErrUtf)
		}
	}
}

// P4.4: where bytes that are no rune's and a wrong escape both stand, the first one is told; and neither behind the literal's end.
func TestUnquoteTellsTheFirstError(t *testing.T) {
	utf := []string{"\x80", "\xff", "\xc0", "\xc3\"", "\xe2\x82a", "\xed\xa0", "\xf0\x8f"}
	escapes := []string{`\x`, `\u"`, `\u00g`, `\udc`, `\ud83dx`, `\ud83d\n`, `\ud83d\u0`, "\x00", "\x1f", "\n", "\\\x80", "\\u\x80", "\\ud83d\x80", "\\ud83d\\\x80"}
	for _, u := range utf {
		for _, x := range escapes {
			wantUnquote(t, `"a`+u+x+`"`, "", 0, api.ErrUtf)
			wantUnquote(t, `"a`+x+u+`"`, "", 0, api.ErrEscape)
			wantUnquote(t, `"a`+u+"b"+x, "", 0, api.ErrUtf)
			wantUnquote(t, `"a`+x+"b"+u, "", 0, api.ErrEscape)
			wantUnquote(t, `"a"`+u+x, "a", 3, api.OK)
			wantUnquote(t, `"a"`+x+u, "a", 3, api.OK)
			wantUnquote(t, u+`"`+x+`"`, "", 0, api.ErrEscape)
		}
	}
}

// P4.4: a text that does not begin with a quote, and none at all.
func TestUnquoteOfNoLiteral(t *testing.T) {
	wantUnquote(t, "", "", 0, api.ErrTrunc)
	wantUnquote(t, `"`, "", 0, api.ErrTrunc)
	for _, s := range []string{"a", ` "a"`, `'a'`, `a"`, `\"`, `\u0022`, "\x00", "\x80", "\xff\"a\"", "\xc3", "\xef\xbb\xbf\"a\"", "{}", "1"} {
		wantUnquote(t, s, "", 0, api.ErrEscape)
	}
}

// P4.4: Unquote is as the words say, of all texts of few bytes that matter, and of literals with a byte changed, left out, or put in.
func TestUnquoteIsThatOfTheWords(t *testing.T) {
	telling := []string{`"`, `\`, `u`, `d`, `8`, `n`, "\x1f", "\x80", "\xe0", "\xbf"}
	var grow func(s string, left int)
	grow = func(s string, left int) {
		wantUnquoteOfTheWords(t, s)
		for i := 0; left > 0 && i < len(telling); i++ {
			grow(s+telling[i], left-1)
		}
	}
	grow("", 2)
	grow(`"`, 4)
	for _, first := range []string{`"\u`, `"\ud8`, `"\ud83d`, `"\ud83d\ud`, "\"\xe0\xa0\x80", "\"\xf0"} {
		grow(first, 4)
	}
	eachBytes(func(s string) { wantUnquoteOfTheWords(t, `"`+s+`"`) })
	next := scatter()
	good := 0
	for _, s := range literals() {
		wantUnquoteOfTheWords(t, s)
		for range 200 {
			at, c := next(len(s)), string([]byte{byte(next(256))})
			if next(2) == 0 {
				c = telling[next(len(telling))]
			}
			spoilt := []string{s[:at] + s[at+1:], s[:at] + c + s[at+1:], s[:at] + c + s[at:]}[next(3)]
			wantUnquoteOfTheWords(t, spoilt)
			if _, _, e := wordUnquote(spoilt); e == api.OK {
				good++
			}
		}
	}
	if good < 1000 {
		t.Errorf("only %d texts were literals", good)
	}
}

// P4.6: a text is read of its tidy literal as it was, whatever stands behind.
func TestTidyLiteralsAreReadBack(t *testing.T) {
	for _, s := range texts() {
		q, e := Quote(s)
		if e != api.OK || q != wordQuote(s) {
			t.Errorf("Quote(%q): %s, %d", s, q, e)
		}
		for _, tail := range tails() {
			wantUnquote(t, q+tail, s, len(q), api.OK)
		}
	}
	for n := range lastRune + 1 {
		if !wordRune(n) {
			continue
		}
		s := wordBytes(n)
		q, _ := Quote(s)
		if text, size, e := Unquote(q + q); text != s || size != len(q) || e != api.OK {
			t.Fatalf("Unquote(%s): %q, %d, %d", q, text, size, e)
		}
	}
}

// P4.6: each spelling of a text is read as that text, and none is shorter than the tidy one.
func TestNoLiteralIsShorter(t *testing.T) {
	for _, n := range endRunes() {
		s := wordBytes(n)
		q, _ := Quote(s)
		for _, part := range spellings(n) {
			wantUnquote(t, `"`+part+`"`, s, len(part)+2, api.OK)
			if len(q) > len(part)+2 {
				t.Errorf("Quote(%q): %s; but \"%s\" is shorter", s, q, part)
			}
		}
	}
	next := scatter()
	ends := endRunes()
	for range 2000 {
		s, literal := "", `"`
		for range next(9) {
			n := ends[next(len(ends))]
			all := spellings(n)
			s += wordBytes(n)
			literal += all[next(len(all))]
		}
		literal += `"`
		wantUnquote(t, literal, s, len(literal), api.OK)
		if q, e := Quote(s); len(q) > len(literal) || e != api.OK {
			t.Errorf("Quote(%q): %s, %d; but %s is shorter", s, q, e, literal)
		}
	}
}

// P4.7: a literal that is cut off anywhere is ErrTrunc.
func TestUnquoteOfCutOffLiterals(t *testing.T) {
	all := literals()
	for _, s := range texts() {
		q, _ := Quote(s)
		all = append(all, q)
	}
	for _, s := range all {
		for cut := range len(s) {
			wantUnquote(t, s[:cut], "", 0, api.ErrTrunc)
		}
	}
}

// R1: long texts end, too, and their literals are read back.
func TestLongTexts(t *testing.T) {
	for _, part := range []string{"a", "\x01", "\"", "\u00e4", "\U0001f600"} {
		s := strings.Repeat(part, 1<<20/len(part))
		q, e := Quote(s)
		if e != api.OK {
			t.Fatalf("Quote of many %q: %d", part, e)
		}
		if text, n, e := Unquote(q + "x"); text != s || n != len(q) || e != api.OK {
			t.Errorf("Unquote of many %q: %d bytes, %d, %d", part, len(text), n, e)
		}
		if _, _, e := Unquote(q[:len(q)-1]); e != api.ErrTrunc {
			t.Errorf("Unquote of many %q, cut off: %d", part, e)
		}
	}
}
