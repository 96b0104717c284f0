package jshow

import (
	"fmt"
	"math/rand/v2"
	"slices"
	"strings"
	"testing"

	"millstream/api"
)

// value is one of JSON, as a tree, with a key for each part (in a list one of no bytes). Its tape is by the words of chapter 6, its text by those of chapter 8.
type value struct {
	kind  int
	n     int64
	s     string
	keys  []string
	parts []*value
}

// nodes are those of a value, below a key.
func (v *value) nodes(key string) []api.Node {
	l := []api.Node{{Kind: v.kind, Key: key, N: v.n, S: v.s}}
	for i, part := range v.parts {
		l = append(l, part.nodes(v.keys[i])...)
	}
	l[0].Size = len(l)
	return l
}

// text is a value's, by the words.
func (v *value) text() string {
	return strings.Join(v.pieces(tidyLiteral), "")
}

// pieces are those of a value's text that blanks may stand between, with its literals as they are to be spelt.
func (v *value) pieces(literal func(text string) string) []string {
	switch v.kind {
	case api.KNull:
		return []string{"null"}
	case api.KFalse:
		return []string{"false"}
	case api.KTrue:
		return []string{"true"}
	case api.KNum:
		return []string{fmt.Sprintf("%d", v.n)}
	case api.KStr:
		return []string{literal(v.s)}
	}
	l := []string{map[int]string{api.KList: "[", api.KObj: "{"}[v.kind]}
	for i, part := range v.parts {
		if i > 0 {
			l = append(l, ",")
		}
		if v.kind == api.KObj {
			l = append(l, literal(v.keys[i]), ":")
		}
		l = append(l, part.pieces(literal)...)
	}
	return append(l, map[int]string{api.KList: "]", api.KObj: "}"}[v.kind])
}

// tidyLiteral is that of a text, byte by byte, by the words of chapter 4.
func tidyLiteral(text string) string {
	short := map[byte]string{'"': `\"`, '\\': `\\`, 0x08: `\b`, 0x0c: `\f`, 0x0a: `\n`, 0x0d: `\r`, 0x09: `\t`}
	var s strings.Builder
	s.WriteString(`"`)
	for i := range len(text) {
		c := text[i]
		switch escape, is := short[c]; {
		case is:
			s.WriteString(escape)
		case c < 0x20:
			fmt.Fprintf(&s, `\u00%02x`, c)
		default:
			s.WriteByte(c)
		}
	}
	s.WriteString(`"`)
	return s.String()
}

// inOrder is a value with the members of each of its objects laid in an order: which key stands where is asked of order.
func (v *value) inOrder(order func(keys []string) []string) *value {
	to := &value{kind: v.kind, n: v.n, s: v.s, keys: slices.Clone(v.keys)}
	if v.kind == api.KObj {
		to.keys = order(slices.Clone(v.keys))
	}
	for i, key := range to.keys {
		from := i
		if v.kind == api.KObj {
			from = slices.Index(v.keys, key)
		}
		to.parts = append(to.parts, v.parts[from].inOrder(order))
	}
	return to
}

// rising lays keys byte by byte, what ends first ahead.
func rising(keys []string) []string {
	slices.Sort(keys)
	return keys
}

// falling is the other way round.
func falling(keys []string) []string {
	slices.Sort(keys)
	slices.Reverse(keys)
	return keys
}

// shuffled lays keys now so, now so.
func shuffled(next func(below int) int) func(keys []string) []string {
	return func(keys []string) []string {
		for i := range keys {
			other := next(i + 1)
			keys[i], keys[other] = keys[other], keys[i]
		}
		return keys
	}
}

// scatter answers numbers below a limit that lie scattered, the same ones in each run.
func scatter() func(below int) int {
	return rand.New(rand.NewPCG(8, 8)).IntN
}

// someTexts are texts, and keys, that are easily mistaken, have to be escaped, or are escaped elsewhere; one is none at all.
func someTexts() []string {
	return []string{"", "a", "b", "ab", "A", "a ", "\x00", "\x1f", " ", "\n", "\t", "\"", "#", "\\", "/", "\\n", "\\u0000", "[", "]", "{}", ",", ":", "null", "-1", "<&>", "\u007f", "\u0080", "\u00e4", "\u2028", "\ufffd", "\uffff", "\U0001f600"}
}

// someNumbers are such, at the ends of what there is, too.
func someNumbers() []int64 {
	return []int64{0, 1, -1, 7, 10, -10, 100, -20, 1<<53 + 1, 1<<63 - 1, -1<<63 + 1, -1 << 63, 1000000000000000000}
}

// someValue is a scattered one, of at most so many levels.
func someValue(next func(below int) int, levels int) *value {
	kind := next(7) + 1
	if levels > 1 && next(2) == 0 {
		kind = api.KList + next(2)
	}
	v := &value{kind: kind}
	texts := someTexts()
	switch kind {
	case api.KNum:
		v.n = someNumbers()[next(len(someNumbers()))]
	case api.KStr:
		v.s = texts[next(len(texts))]
	case api.KList, api.KObj:
		for range next(5) * min(levels-1, 1) {
			at := next(len(texts))
			v.keys = append(v.keys, texts[at])
			v.parts = append(v.parts, someValue(next, levels-1))
			texts = slices.Delete(texts, at, at+1)
		}
		if kind == api.KList {
			clear(v.keys)
		}
	}
	return v
}

// someValues are scattered ones of each kind and of up to five levels.
func someValues(many int) []*value {
	next := scatter()
	var l []*value
	for i := range many {
		l = append(l, someValue(next, i%5+1))
	}
	return l
}

// example is the chapter's: {"b": [1, null], "a": true}.
func example() []api.Node {
	return []api.Node{
		{Kind: api.KObj, Size: 5},
		{Kind: api.KList, Key: "b", Size: 3},
		{Kind: api.KNum, N: 1, Size: 1},
		{Kind: api.KNull, Size: 1},
		{Kind: api.KTrue, Key: "a", Size: 1},
	}
}

// nulls is a list of so many nulls.
func nulls(many int) []api.Node {
	return append([]api.Node{{Kind: api.KList, Size: many + 1}}, slices.Repeat([]api.Node{{Kind: api.KNull, Size: 1}}, many)...)
}

// nested are lists, or objects, of one part each, so deep; the innermost one is empty.
func nested(kind, deep int) []api.Node {
	var l []api.Node
	for i := range deep {
		l = append(l, api.Node{Kind: kind, Size: deep - i})
		if kind == api.KObj && i > 0 {
			l[i].Key = "k"
		}
	}
	return l
}

// short is a text for telling it, be it ever so long.
func short(s string) string {
	if len(s) > 80 {
		return fmt.Sprintf("%.40q .. %q (%d bytes)", s, s[len(s)-40:], len(s))
	}
	return fmt.Sprintf("%q", s)
}

// wantText tells whether that is what is shown.
func wantText(t *testing.T, what string, show func(l []api.Node) (string, api.Errno), l []api.Node, want string) {
	t.Helper()
	if got, e := show(l); got != want || e != api.OK {
		t.Errorf("%s of %d nodes %v: %s, %d; not %s", what, len(l), l[:min(len(l), 9)], short(got), e, short(want))
	}
}

func wantShow(t *testing.T, l []api.Node, want string) {
	t.Helper()
	wantText(t, "Show", Show, l, want)
}

func wantCanon(t *testing.T, l []api.Node, want string) {
	t.Helper()
	wantText(t, "Canon", Canon, l, want)
}

// wantErrors tells whether nodes are refused, and how.
func wantErrors(t *testing.T, what string, l []api.Node, show, canon api.Errno) {
	t.Helper()
	if got, e := Show(l); got != "" || e != show {
		t.Errorf("%s: Show: %s, %d; not %d", what, short(got), e, show)
	}
	if got, e := Canon(l); got != "" || e != canon {
		t.Errorf("%s: Canon: %s, %d; not %d", what, short(got), e, canon)
	}
}

// wantWords holds a value's tape against the words: as it stands, and with its members by rising keys.
func wantWords(t *testing.T, v *value) {
	t.Helper()
	wantShow(t, v.nodes(""), v.text())
	wantCanon(t, v.nodes(""), v.inOrder(rising).text())
}
