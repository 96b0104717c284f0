package utf

import (
	"math"
	"strings"
	"testing"
)

// lastRune is the greatest rune there is.
const lastRune = 0x10ffff

// wordRune tells, by the document's words, whether a number is a rune.
func wordRune(n int) bool {
	return 0 <= n && n <= lastRune && (n < 0xd800 || n > 0xdfff)
}

// wordBytes are a rune's bytes as the document's section Words says them: by division, apart from what the package does.
func wordBytes(n int) string {
	switch {
	case n < 0x80:
		return string([]byte{byte(n)})
	case n < 0x800:
		return string([]byte{byte(0xc0 + n/64), byte(0x80 + n%64)})
	case n < 0x10000:
		return string([]byte{byte(0xe0 + n/4096), byte(0x80 + n/64%64), byte(0x80 + n%64)})
	}
	return string([]byte{byte(0xf0 + n/262144), byte(0x80 + n/4096%64), byte(0x80 + n/64%64), byte(0x80 + n%64)})
}

// wordNext is the rune whose bytes stand at a text's beginning, by the words: of each size the only number that could have put these bytes, if it puts them.
func wordNext(s string) (n, size int, ok bool) {
	heads := []int{0, 0, 0xc0, 0xe0, 0xf0}
	for size := 1; size <= min(4, len(s)); size++ {
		n := int(s[0]) - heads[size]
		for _, c := range []byte(s[1:size]) {
			n = n*64 + int(c) - 0x80
		}
		if wordRune(n) && wordBytes(n) == s[:size] {
			return n, size, true
		}
	}
	return 0, 0, false
}

// wordBegins tells, by the words, whether bytes are the beginning of a rune's bytes: whether some fill them up to these.
func wordBegins(s string) bool {
	for _, fill := range []string{"\x80", "\xbf"} {
		for n := range 4 {
			if _, size, ok := wordNext(s + strings.Repeat(fill, n)); ok && size == len(s)+n {
				return true
			}
		}
	}
	return false
}

// wordValid is P4.2, rune by rune.
func wordValid(s string) bool {
	for s != "" {
		_, size, ok := wordNext(s)
		if !ok {
			return false
		}
		s = s[size:]
	}
	return true
}

// scatter answers numbers below a limit that lie scattered, the same ones in each run.
func scatter() func(below int) int {
	x := uint64(88172645463325252)
	return func(below int) int {
		x ^= x << 13
		x ^= x >> 7
		x ^= x << 17
		return int(x >> 33 % uint64(below))
	}
}

// endRunes are the runes at the ends of each number of bytes, round D800 to DFFF, and others that are easily mistaken.
func endRunes() []int {
	return []int{0, 1, 8, 9, 10, 12, 13, 0x1f, 0x20, '"', '/', '0', 'A', '\\', 'a', 'u', 0x7e, 0x7f,
		0x80, 0xe4, 0xff, 0x100, 0x7ff, 0x800, 0xfff, 0x1000, 0x20ac, 0xcfff, 0xd000, 0xd7ff, 0xe000, 0xfeff, 0xfffd, 0xfffe, 0xffff,
		0x10000, 0x1f600, 0x3ffff, 0x40000, 0xfffff, 0x100000, 0x10fffe, lastRune}
}

// eachBytes hands over many texts of bytes: all of at most two, those of three and four that go on behind bytes with which a rune may begin, and what is put of end runes with a byte changed, left out or put in.
func eachBytes(do func(s string)) {
	ends := []byte{0x22, 0x7f, 0x80, 0xbf, 0xc0}
	do("")
	for x := range 256 {
		do(string([]byte{byte(x)}))
		for y := range 256 {
			do(string([]byte{byte(x), byte(y)}))
			for i := 0; x >= 0xc0 && i < len(ends); i++ {
				do(string([]byte{byte(x), byte(y), ends[i]}))
				for j := 0; x >= 0xe0 && j < len(ends); j++ {
					do(string([]byte{byte(x), byte(y), ends[i], ends[j]}))
				}
			}
		}
	}
	for _, n := range endRunes() {
		for _, m := range endRunes() {
			s := wordBytes(n) + wordBytes(m)
			do(s)
			for i := range s {
				do(s[:i] + s[i+1:])
				for _, c := range ends {
					do(s[:i] + string([]byte{c}) + s[i+1:])
					do(s[:i] + string([]byte{c}) + s[i:])
				}
			}
		}
	}
}

// texts are some of UTF-8: none, end runes by themselves, all together, and scattered ones behind each other.
func texts() []string {
	ends := endRunes()
	l := []string{"", "plain", strings.Repeat("long \u00e4", 300)}
	all := ""
	for _, n := range ends {
		l = append(l, wordBytes(n))
		all += wordBytes(n)
	}
	l = append(l, all)
	next := scatter()
	for i := range 300 {
		s := ""
		for range i%7 + 2 {
			s += wordBytes(ends[next(len(ends))])
		}
		l = append(l, s)
	}
	return l
}

// tails are bytes that may stand behind: none, runes, the rest of a rune, its beginning, and none of it.
func tails() []string {
	return []string{"", "A", "\"", "\\", "\x00", "\x80", "\xbf", "\x80\x80\x80", "\xc3", "\xc3\xa4", "\xe2\x82\xac", "\xe2\x82", "\xf0\x9f\x98\x80", "\xed\xa0\x80", "\xff", "a\xff", "\xff\xff\xff\xff"}
}

func wantNext(t *testing.T, s string, r, n int, ok bool) {
	t.Helper()
	if gr, gn, gok := Next(s); gr != rune(r) || gn != n || gok != ok {
		t.Errorf("Next(% x): %x, %d, %v; want %x, %d, %v", s, gr, gn, gok, r, n, ok)
	}
}

func wantPut(t *testing.T, r rune, s string, ok bool) {
	t.Helper()
	if gs, gok := Put(r); gs != s || gok != ok {
		t.Errorf("Put(%x): % x, %v; want % x, %v", r, gs, gok, s, ok)
	}
}

// P4.1: the chapter's examples.
func TestExamplesOfRunes(t *testing.T) {
	wantNext(t, "\xc3\xa4A", 0xe4, 2, true)
	wantNext(t, "\xc3", 0, 0, false)
	wantNext(t, "\xc0\x80", 0, 0, false)
	wantNext(t, "\xed\xa0\x80", 0, 0, false)
	wantPut(t, 0x20ac, "\xe2\x82\xac", true)
	wantPut(t, 0xd800, "", false)
	wantPut(t, -1, "", false)
}

// P4.1: runes at the ends of each number of bytes, and FFFD, which is a rune as others are.
func TestNextAtTheEnds(t *testing.T) {
	for _, c := range []struct {
		s    string
		r, n int
	}{
		{"\x00", 0, 1}, {"\x7f", 0x7f, 1},
		{"\xc2\x80", 0x80, 2}, {"\xdf\xbf", 0x7ff, 2},
		{"\xe0\xa0\x80", 0x800, 3}, {"\xed\x9f\xbf", 0xd7ff, 3}, {"\xee\x80\x80", 0xe000, 3}, {"\xef\xbf\xbd", 0xfffd, 3}, {"\xef\xbf\xbf", 0xffff, 3},
		{"\xf0\x90\x80\x80", 0x10000, 4}, {"\xf4\x8f\xbf\xbf", lastRune, 4},
	} {
		for _, tail := range tails() {
			wantNext(t, c.s+tail, c.r, c.n, true)
		}
		wantPut(t, rune(c.r), c.s, true)
	}
}

// P4.1: bytes with which no rune begins, longer spellings, halves, numbers above 10FFFF, and runes that are cut off or broken behind each of their bytes.
func TestNextOfNoRune(t *testing.T) {
	wantNext(t, "", 0, 0, false)
	for c := 0x80; c < 0x100; c++ {
		wantNext(t, string([]byte{byte(c)}), 0, 0, false)
		if c < 0xc2 || c > 0xf4 {
			for _, tail := range tails() {
				wantNext(t, string([]byte{byte(c)})+tail, 0, 0, false)
			}
		}
	}
	for _, s := range []string{
		"\xc0\x80", "\xc0\xaf", "\xc1\xbf", "\xe0\x80\x80", "\xe0\x9f\xbf", "\xf0\x80\x80\x80", "\xf0\x8f\xbf\xbf", "\xf8\x80\x80\x80\x80", "\xfc\x80\x80\x80\x80\x80",
		"\xed\xa0\x80", "\xed\xad\xbf", "\xed\xb0\x80", "\xed\xbf\xbf", "\xed\xa0\xbd\xed\xb8\x80",
		"\xf4\x90\x80\x80", "\xf4\xbf\xbf\xbf", "\xf5\x80\x80\x80", "\xf7\xbf\xbf\xbf", "\xff\xff\xff\xff",
	} {
		wantNext(t, s, 0, 0, false)
	}
	for _, n := range endRunes() {
		b := wordBytes(n)
		for cut := 1; cut < len(b); cut++ {
			wantNext(t, b[:cut], 0, 0, false)
			for _, c := range []string{"\x00", "\"", "\x7f", "\xc0", "\xc3\xa4", "\xff", b} {
				wantNext(t, b[:cut]+c, 0, 0, false)
			}
		}
	}
}

// P4.1, P4.2: Next and Valid are as the words say, of all texts of two bytes, and of many longer ones.
func TestNextAndValidAreThoseOfTheWords(t *testing.T) {
	good := 0
	eachBytes(func(s string) {
		r, n, ok := wordNext(s)
		wantNext(t, s, r, n, ok)
		valid := wordValid(s)
		if Valid(s) != valid {
			t.Errorf("Valid(% x): %v", s, !valid)
		}
		if valid {
			good++
		}
	})
	if good < 10000 {
		t.Errorf("only %d texts were UTF-8", good)
	}
}

// P4.1: numbers that are no runes have no bytes.
func TestPutOfNoRune(t *testing.T) {
	for r := rune(0xd800); r <= 0xdfff; r++ {
		wantPut(t, r, "", false)
	}
	for _, r := range []rune{-1, -2, -0x80, -0xd800, -lastRune, math.MinInt32, math.MinInt32 + 1, 0x110000, 0x110001, 0x1fffff, 0x200000, 0x7fffff, 1 << 24, 1 << 30, math.MaxInt32} {
		wantPut(t, r, "", false)
	}
}

// P4.2: texts that are UTF-8, and that are none, by their bytes.
func TestValid(t *testing.T) {
	for s, want := range map[string]bool{
		"": true, "a": true, "\x00": true, "\x7f": true, "a\u00e4\u20ac\U0001f600": true, "\xef\xbf\xbd": true, "\xef\xbf\xbd\xef\xbf\xbd": true,
		"\x80": false, "\xff": false, "a\x80": false, "\xffa": false, "a\xc3": false, "\xc3a": false, "\xe2\x82": false, "\xef\xbf": false, "\xbf\xbd": false,
		"\xef\xbf\xbd\xff": false, "\xff\xef\xbf\xbd": false, "\xc0\x80": false, "\xed\xa0\xbd\xed\xb8\x80": false, "\xf4\x90\x80\x80": false, "\xf0\x80\x80\x80": false,
	} {
		if Valid(s) != want {
			t.Errorf("Valid(% x): %v", s, !want)
		}
	}
}

// P4.5: each rune is put as the words say, and comes next, whatever stands behind; the runes' order is that of their bytes.
func TestRunesComeNextInTheirOrder(t *testing.T) {
	behind := tails()
	ahead := ""
	for n := range lastRune + 1 {
		if !wordRune(n) {
			continue
		}
		s, ok := Put(rune(n))
		if s != wordBytes(n) || !ok {
			t.Fatalf("Put(%x): % x, %v", n, s, ok)
		}
		if n > 0 && s <= ahead {
			t.Fatalf("Put(%x): % x is not above % x", n, s, ahead)
		}
		ahead = s
		tail := behind[n%len(behind)]
		if r, size, ok := Next(s + tail); int(r) != n || size != len(s) || !ok {
			t.Fatalf("Next(% x): %x, %d, %v", s+tail, r, size, ok)
		}
	}
	for _, n := range endRunes() {
		for _, tail := range behind {
			s, _ := Put(rune(n))
			wantNext(t, s+tail, n, len(s), true)
		}
	}
}

// P4.8: behind UTF-8, all is UTF-8 just if what is put behind is.
func TestValidOfTwo(t *testing.T) {
	for _, s := range texts() {
		if !Valid(s) {
			t.Errorf("Valid(% x): false", s)
		}
		for _, tail := range tails() {
			if Valid(s+tail) != wordValid(tail) || Valid(tail) != wordValid(tail) {
				t.Errorf("Valid(% x): %v; of % x: %v", s+tail, Valid(s+tail), tail, Valid(tail))
			}
		}
	}
	eachBytes(func(tail string) {
		if Valid("\u00e4\U0001f600"+tail) != wordValid(tail) {
			t.Errorf("Valid, with % x behind: %v", tail, !wordValid(tail))
		}
	})
}

// P4.8: a byte of 80 or more that becomes one below 80 makes of UTF-8 none.
func TestValidOfSpoiltTexts(t *testing.T) {
	for _, s := range texts() {
		if len(s) > 200 {
			continue
		}
		for i := range len(s) {
			for c := 0; s[i] >= 0x80 && c < 0x80; c++ {
				spoilt := s[:i] + string([]byte{byte(c)}) + s[i+1:]
				if Valid(spoilt) {
					t.Errorf("Valid(% x): true", spoilt)
				}
			}
		}
	}
}
