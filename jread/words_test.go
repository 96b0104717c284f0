package jread

import (
	"fmt"
	"math/big"
	"math/rand/v2"
	"regexp"
	"slices"
	"strings"
	"testing"
	"unicode/utf16"

	"millstream/api"
	"millstream/utf"
)

// value is one of JSON, as a tree, with a key for each part (in a list one of no bytes): its tape by the words of chapter 6 is what nodes puts down of it.
type value struct {
	kind  int
	n     int64
	s     string
	keys  []string
	parts []*value
}

// nodes are those of a value, below a key.
func (v *value) nodes(key string) []api.Node {
	l := []api.Node{{Kind: v.kind, Key: key, N: v.n, S: v.s}}
	for i, part := range v.parts {
		l = append(l, part.nodes(v.keys[i])...)
	}
	l[0].Size = len(l)
	return l
}

// wrong is an error of a text, and its place.
type wrong struct {
	at int
	e  api.Errno
}

// wordReader reads by the document's words, value within value. What is wrong is thrown.
type wordReader struct {
	s         string
	at, begun int
}

// wordParse is P7.1.
func wordParse(s string) (t []api.Node, at int, e api.Errno) {
	if len(s) > 1<<20 {
		return nil, 0, api.ErrLimit
	}
	defer func() {
		if w, ok := recover().(wrong); ok {
			t, at, e = nil, w.at, w.e
		}
	}()
	r := wordReader{s: s}
	r.blanks()
	v := r.value(0)
	r.blanks()
	if r.at < len(s) {
		panic(wrong{r.at, api.ErrJson})
	}
	return v.nodes(""), 0, api.OK
}

func (r *wordReader) blanks() {
	for r.at < len(r.s) && slices.Contains([]byte{0x20, 0x09, 0x0a, 0x0d}, r.s[r.at]) {
		r.at++
	}
}

// is tells whether a text stands next.
func (r *wordReader) is(what string) bool {
	return strings.HasPrefix(r.s[r.at:], what)
}

// bytes takes bytes that have to stand next.
func (r *wordReader) bytes(want string) {
	for i := range len(want) {
		if !r.is(want[i : i+1]) {
			panic(wrong{r.at, api.ErrJson})
		}
		r.at++
	}
}

func (r *wordReader) literal() string {
	if !r.is(`"`) {
		panic(wrong{r.at, api.ErrJson})
	}
	text, n, e := utf.Unquote(r.s[r.at:])
	if e != api.OK {
		panic(wrong{r.at, e})
	}
	r.at += n
	return text
}

var (
	wordNumber = regexp.MustCompile(`^-?(0|[1-9][0-9]*)([.][0-9]+)?([eE][+-]?[0-9]+)?$`)
	// The beginnings of numbers: of the whole, up to the fraction, up to the exponent.
	wordNumberBegins = regexp.MustCompile(`^(-?|-?(0|[1-9][0-9]*)([.][0-9]*)?|-?(0|[1-9][0-9]*)([.][0-9]+)?[eE][+-]?[0-9]*)`)
)

func init() {
	wordNumberBegins.Longest()
}

func (r *wordReader) number() *value {
	begun := wordNumberBegins.FindString(r.s[r.at:])
	if !wordNumber.MatchString(begun) {
		panic(wrong{r.at + len(begun), api.ErrJson})
	}
	n, ok := new(big.Int).SetString(begun, 10)
	if !ok || !n.IsInt64() {
		panic(wrong{r.at, api.ErrWhole})
	}
	r.at += len(begun)
	return &value{kind: api.KNum, n: n.Int64()}
}

// value takes one that stands within so many lists and objects.
func (r *wordReader) value(within int) *value {
	if r.at == len(r.s) || !strings.Contains(`nft"[{-0123456789`, r.s[r.at:r.at+1]) {
		panic(wrong{r.at, api.ErrJson})
	}
	if r.begun == 4000 {
		panic(wrong{r.at, api.ErrLimit})
	}
	if within == 64 {
		panic(wrong{r.at, api.ErrDeep})
	}
	r.begun++
	switch r.s[r.at] {
	case 'n':
		r.bytes("null")
		return &value{kind: api.KNull}
	case 'f':
		r.bytes("false")
		return &value{kind: api.KFalse}
	case 't':
		r.bytes("true")
		return &value{kind: api.KTrue}
	case '"':
		return &value{kind: api.KStr, s: r.literal()}
	case '[':
		return r.parts(&value{kind: api.KList}, "[", "]", within+1)
	case '{':
		return r.parts(&value{kind: api.KObj}, "{", "}", within+1)
	}
	return r.number()
}

// parts takes those of a list or an object.
func (r *wordReader) parts(v *value, begin, end string, within int) *value {
	r.bytes(begin)
	r.blanks()
	for len(v.parts) == 0 && !r.is(end) || len(v.parts) > 0 && r.is(",") {
		if len(v.parts) > 0 {
			r.bytes(",")
			r.blanks()
		}
		key := ""
		if v.kind == api.KObj {
			key = r.member(v.keys)
		}
		v.keys = append(v.keys, key)
		v.parts = append(v.parts, r.value(within))
		r.blanks()
	}
	r.bytes(end)
	return v
}

// member takes one up to its value.
func (r *wordReader) member(ahead []string) string {
	at := r.at
	key := r.literal()
	if slices.Contains(ahead, key) {
		panic(wrong{at, api.ErrTwice})
	}
	r.blanks()
	r.bytes(":")
	r.blanks()
	return key
}

// speller puts values down in one of their spellings: what stands between parts, and how the runes of literals are spelt, is for it to choose.
type speller struct {
	blank func() string
	spelt func(r rune) string
}

// tidy spells without blanks, and each rune as short as it can be.
func tidy() speller {
	return speller{func() string { return "" }, func(r rune) string { return runeSpellings(r)[0] }}
}

// scattered spells now so, now so.
func scattered(next func(below int) int) speller {
	return speller{
		func() string { return []string{"", "", "", " ", "\n", "\t", "\r", " \r\n\t "}[next(8)] },
		func(r rune) string {
			l := runeSpellings(r)
			return l[next(len(l))]
		},
	}
}

// runeSpellings are the ways in which a rune may stand in a literal, a shortest one first.
func runeSpellings(r rune) []string {
	var l []string
	if at := strings.IndexRune("\"\\\b\f\n\r\t/", r); at >= 0 {
		l = append(l, `\`+`"\bfnrt/`[at:at+1])
	}
	if r >= ' ' && r != '"' && r != '\\' {
		l = slices.Insert(l, 0, string(r))
	}
	if r > 0xffff {
		high, low := utf16.EncodeRune(r)
		return append(l, fmt.Sprintf(`\u%04x\u%04X`, high, low))
	}
	return append(l, fmt.Sprintf(`\u%04x`, r), fmt.Sprintf(`\u%04X`, r))
}

func (sp speller) literal(text string) string {
	s := `"`
	for _, r := range text {
		s += sp.spelt(r)
	}
	return s + `"`
}

// parts are those of a value's text that blanks may stand between.
func (sp speller) parts(v *value) []string {
	switch v.kind {
	case api.KNull:
		return []string{"null"}
	case api.KFalse:
		return []string{"false"}
	case api.KTrue:
		return []string{"true"}
	case api.KNum:
		return []string{fmt.Sprint(v.n)}
	case api.KStr:
		return []string{sp.literal(v.s)}
	}
	l := []string{"["}
	if v.kind == api.KObj {
		l[0] = "{"
	}
	for i, part := range v.parts {
		if i > 0 {
			l = append(l, ",")
		}
		if v.kind == api.KObj {
			l = append(l, sp.literal(v.keys[i]), ":")
		}
		l = append(l, sp.parts(part)...)
	}
	if v.kind == api.KObj {
		return append(l, "}")
	}
	return append(l, "]")
}

// value is a text of a value, with blanks around, too.
func (sp speller) value(v *value) string {
	s := sp.blank()
	for _, part := range sp.parts(v) {
		s += part + sp.blank()
	}
	return s
}

// scatter answers numbers below a limit that lie scattered, the same ones in each run.
func scatter() func(below int) int {
	return rand.New(rand.NewPCG(7, 7)).IntN
}

// someTexts are texts, and keys, that are easily mistaken, or have to be escaped; one is none at all.
func someTexts() []string {
	return []string{"", "a", "b", "ab", "A", "a ", "\x00", "\n", "\"", "\\", "/", "\\n", "[", "]", "{}", ",", ":", "null", "-1", "\u007f", "\u00e4", "\u20ac", "\ufffd", "\uffff", "\U0001f600"}
}

// someValue is a scattered one, of at most so many levels.
func someValue(next func(below int) int, levels int) *value {
	kind := next(7) + 1
	if levels > 1 && next(2) == 0 {
		kind = api.KList + next(2)
	}
	v := &value{kind: kind}
	texts := someTexts()
	switch kind {
	case api.KNum:
		v.n = []int64{0, 1, -1, 10, -20, 1<<63 - 1, -1 << 63, 1234567890123}[next(8)]
	case api.KStr:
		v.s = texts[next(len(texts))]
	case api.KList, api.KObj:
		for range next(5) * min(levels-1, 1) {
			at := next(len(texts))
			v.keys = append(v.keys, texts[at])
			v.parts = append(v.parts, someValue(next, levels-1))
			texts = slices.Delete(texts, at, at+1)
		}
		if kind == api.KList {
			clear(v.keys)
		}
	}
	return v
}

// someValues are scattered ones of each kind and of up to five levels.
func someValues(many int) []*value {
	next := scatter()
	var l []*value
	for i := range many {
		l = append(l, someValue(next, i%5+1))
	}
	return l
}

// short is a text for telling it, be it ever so long.
func short(s string) string {
	if len(s) > 80 {
		return fmt.Sprintf("%.40q .. %q (%d bytes)", s, s[len(s)-40:], len(s))
	}
	return fmt.Sprintf("%q", s)
}

// wantTape tells whether a text is read as nodes.
func wantTape(t *testing.T, s string, want []api.Node) {
	t.Helper()
	if got, at, e := Parse(s); !slices.Equal(got, want) || at != 0 || e != api.OK {
		t.Errorf("%s: %d nodes %v, %d, %d; not %d nodes %v", short(s), len(got), got[:min(len(got), 9)], at, e, len(want), want[:min(len(want), 9)])
	}
}

// wantWrong tells whether a text is refused, and where.
func wantWrong(t *testing.T, s string, at int, e api.Errno) {
	t.Helper()
	if got, gotAt, gotE := Parse(s); len(got) > 0 || gotAt != at || gotE != e {
		t.Errorf("%s: %d nodes, %d at %d; not %d at %d", short(s), len(got), gotE, gotAt, e, at)
	}
}

// wantWords holds Parse against the document's words, and answers the error that these tell.
func wantWords(t *testing.T, s string) api.Errno {
	t.Helper()
	want, at, e := wordParse(s)
	if e == api.OK {
		wantTape(t, s, want)
	} else {
		wantWrong(t, s, at, e)
	}
	return e
}
