package tape

import (
	"fmt"
	"math"
	"math/rand/v2"
	"slices"
	"testing"
	"unicode/utf8"

	"millstream/api"
)

// value is one of JSON, as a tree, with a key for each part (in a list one of no bytes): a tape by the document's words is what nodes puts down of it.
type value struct {
	kind  int
	n     int64
	s     string
	keys  []string
	parts []*value
}

// nodes are those of a value, below a key.
func (v *value) nodes(key string) []api.Node {
	l := []api.Node{{Kind: v.kind, Key: key, N: v.n, S: v.s}}
	for i, part := range v.parts {
		l = append(l, part.nodes(v.keys[i])...)
	}
	l[0].Size = len(l)
	return l
}

func (v *value) deep() int {
	below := 0
	for _, part := range v.parts {
		below = max(below, part.deep())
	}
	return below + 1
}

// mayBe tells, of a tree, what the table of the section Words asks: kinds with their fields, keys that are UTF-8, none twice.
func (v *value) mayBe() bool {
	leaf := v.kind != api.KList && v.kind != api.KObj
	if v.kind < api.KNull || v.kind > api.KObj || leaf && len(v.parts) > 0 || v.kind != api.KNum && v.n != 0 || v.kind != api.KStr && v.s != "" || !utf8.ValidString(v.s) {
		return false
	}
	for i, key := range v.keys {
		if v.kind != api.KObj && key != "" || !utf8.ValidString(key) || v.kind == api.KObj && slices.Index(v.keys, key) < i {
			return false
		}
	}
	for _, part := range v.parts {
		if !part.mayBe() {
			return false
		}
	}
	return true
}

// wordTree takes the tree with which nodes begin, be it what it may, and answers the nodes behind it; nil: the sizes fit none.
func wordTree(t []api.Node) (v *value, rest []api.Node) {
	if len(t) == 0 || t[0].Size < 1 || t[0].Size > len(t) {
		return nil, nil
	}
	v = &value{kind: t[0].Kind, n: t[0].N, s: t[0].S}
	within := t[1:t[0].Size]
	for len(within) > 0 {
		v.keys = append(v.keys, within[0].Key)
		var part *value
		if part, within = wordTree(within); part == nil {
			return nil, nil
		}
		v.parts = append(v.parts, part)
	}
	return v, t[t[0].Size:]
}

// wordCheck is P6.1, and the value of a tape that may be.
func wordCheck(t []api.Node) (*value, api.Errno) {
	if len(t) > 4000 {
		return nil, api.ErrLimit
	}
	v, rest := wordTree(t)
	switch {
	case v == nil || len(rest) > 0 || !v.mayBe() || !slices.Equal(v.nodes(""), t):
		return nil, api.ErrTape
	case v.deep() > 64:
		return nil, api.ErrDeep
	}
	return v, api.OK
}

// sorted is a value with the members of each object by rising keys: each time the least of those that are left.
func (v *value) sorted() *value {
	w := &value{kind: v.kind, n: v.n, s: v.s}
	left := slices.Clone(v.parts)
	keys := slices.Clone(v.keys)
	for len(left) > 0 {
		least := 0
		for i := range left {
			if v.kind == api.KObj && keys[i] < keys[least] {
				least = i
			}
		}
		w.parts = append(w.parts, left[least].sorted())
		w.keys = append(w.keys, keys[least])
		left = slices.Delete(left, least, least+1)
		keys = slices.Delete(keys, least, least+1)
	}
	return w
}

// scatter answers numbers below a limit that lie scattered, the same ones in each run.
func scatter() func(below int) int {
	return rand.New(rand.NewPCG(1, 2)).IntN
}

// someKeys stand as bytes otherwise than as numbers of 16 bits, or without letters' sizes; one is none at all.
func someKeys() []string {
	return []string{"", "a", "b", "B", "ab", "aa", "a\x00", "\x00", "z", "\u00e4", "\u00e4\u00e4", "\uffff", "\U00010000", "~", "10", "9"}
}

// someValue is a scattered one, of at most so many levels.
func someValue(next func(below int) int, levels int) *value {
	texts := []string{"", "x", "\u20ac", "\x00\n"}
	numbers := []int64{0, 1, -1, math.MaxInt64, math.MinInt64}
	kind := next(7) + 1
	if levels > 1 && next(2) == 0 {
		kind = api.KList + next(2)
	}
	if levels == 1 && kind >= api.KList {
		return &value{kind: kind}
	}
	v := &value{kind: kind}
	switch kind {
	case api.KNum:
		v.n = numbers[next(len(numbers))]
	case api.KStr:
		v.s = texts[next(len(texts))]
	case api.KList, api.KObj:
		keys := someKeys()
		for range next(5) {
			at := next(len(keys))
			v.keys = append(v.keys, keys[at])
			v.parts = append(v.parts, someValue(next, levels-1))
			keys = slices.Delete(keys, at, at+1)
		}
		if kind == api.KList {
			clear(v.keys)
		}
	}
	return v
}

// someValues are scattered ones of each kind and of up to six levels.
func someValues(many int) []*value {
	next := scatter()
	var l []*value
	for i := range many {
		l = append(l, someValue(next, i%6+1))
	}
	return l
}

// example is the chapter's: {"b": [1, null], "a": true}.
func example() []api.Node {
	return []api.Node{
		{Kind: api.KObj, Size: 5},
		{Kind: api.KList, Key: "b", Size: 3},
		{Kind: api.KNum, N: 1, Size: 1},
		{Kind: api.KNull, Size: 1},
		{Kind: api.KTrue, Key: "a", Size: 1},
	}
}

// nulls is a list of so many nulls.
func nulls(many int) []api.Node {
	l := []api.Node{{Kind: api.KList, Size: many + 1}}
	for range many {
		l = append(l, api.Node{Kind: api.KNull, Size: 1})
	}
	return l
}

// nested are lists, or objects, of one part each, so deep; the innermost one is empty.
func nested(kind, deep int) []api.Node {
	var l []api.Node
	for i := range deep {
		l = append(l, api.Node{Kind: kind, Size: deep - i})
		if kind == api.KObj && i > 0 {
			l[i].Key = "k"
		}
	}
	return l
}

// noTapes are nodes that may not be, of each error.
func noTapes() [][]api.Node {
	broken := nested(api.KList, 65)
	broken[64].N = 1
	return [][]api.Node{nil, {}, {{}}, {{Kind: api.KNum}}, example()[:4], nulls(4000), nested(api.KList, 65), nested(api.KObj, 65), broken, {{Kind: api.KNull, Key: "k", Size: 1}}, {{Kind: api.KObj, Key: "k", Size: 1}}}
}

func wantCheck(t *testing.T, what string, l []api.Node, want api.Errno) {
	t.Helper()
	if e := Check(l); e != want {
		t.Errorf("%s: Check: %d, not %d", what, e, want)
	}
}

func wantNodes(t *testing.T, what string, got, want []api.Node) {
	t.Helper()
	if !slices.Equal(got, want) {
		t.Errorf("%s: %v, not %v", what, got, want)
	}
}

// P6.1: the chapter's examples.
func TestCheckExamples(t *testing.T) {
	wantCheck(t, "the example", example(), api.OK)
	wantCheck(t, "without its last node", example()[:4], api.ErrTape)
	wantCheck(t, "nothing", nil, api.ErrTape)
	wantCheck(t, "nothing", []api.Node{}, api.ErrTape)
	twice := example()
	twice[4].Key = "b"
	wantCheck(t, "b twice", twice, api.ErrTape)
}

// P6.1: of each kind, the fields that it has and those that it has not.
func TestCheckOfFields(t *testing.T) {
	for kind := -1; kind <= 9; kind++ {
		known := kind >= api.KNull && kind <= api.KObj
		for _, c := range []struct {
			what string
			node api.Node
			ok   bool
		}{
			{"bare", api.Node{Size: 1}, known},
			{"a number", api.Node{N: 1, Size: 1}, kind == api.KNum},
			{"the least number", api.Node{N: math.MinInt64, Size: 1}, kind == api.KNum},
			{"the greatest number", api.Node{N: math.MaxInt64, Size: 1}, kind == api.KNum},
			{"a text", api.Node{S: "x", Size: 1}, kind == api.KStr},
			{"a text of two runes", api.Node{S: "\u00e4\U0001f600", Size: 1}, kind == api.KStr},
			{"a zero byte", api.Node{S: "\x00", Size: 1}, kind == api.KStr},
			{"no UTF-8", api.Node{S: "\xff", Size: 1}, false},
			{"half a rune", api.Node{S: "a\xc3", Size: 1}, false},
			{"a surrogate", api.Node{S: "\xed\xa0\x80", Size: 1}, false},
			{"a number and a text", api.Node{N: 1, S: "x", Size: 1}, false},
			{"a key", api.Node{Key: "k", Size: 1}, false},
			{"size 0", api.Node{Size: 0}, false},
			{"size -1", api.Node{Size: -1}, false},
			{"size 2", api.Node{Size: 2}, false},
			{"the least size", api.Node{Size: math.MinInt}, false},
			{"the greatest size", api.Node{Size: math.MaxInt}, false},
		} {
			c.node.Kind = kind
			want := api.ErrTape
			if c.ok {
				want = api.OK
			}
			wantCheck(t, fmt.Sprintf("kind %d, %s", kind, c.what), []api.Node{c.node}, want)
			below := c.node
			wantCheck(t, fmt.Sprintf("in a list, kind %d, %s", kind, c.what), []api.Node{{Kind: api.KList, Size: 2}, below}, want)
			below.Key = "k"
			if c.node.Key == "k" && known {
				want = api.OK
			}
			wantCheck(t, fmt.Sprintf("in an object, kind %d, %s", kind, c.what), []api.Node{{Kind: api.KObj, Size: 2}, below}, want)
		}
	}
}

// P6.1: values without parts have none, sizes fill each other, and nothing stands behind the root's end.
func TestCheckOfSizes(t *testing.T) {
	null := api.Node{Kind: api.KNull, Size: 1}
	sized := func(kind, size int) api.Node { return api.Node{Kind: kind, Size: size} }
	for kind := api.KNull; kind <= api.KStr; kind++ {
		wantCheck(t, fmt.Sprintf("kind %d with a part", kind), []api.Node{sized(kind, 2), null}, api.ErrTape)
		wantCheck(t, fmt.Sprintf("a list of kind %d with a part", kind), []api.Node{sized(api.KList, 3), sized(kind, 2), null}, api.ErrTape)
	}
	for _, c := range []struct {
		what string
		l    []api.Node
		e    api.Errno
	}{
		{"a list", []api.Node{sized(api.KList, 3), null, null}, api.OK},
		{"a list, one node too many", []api.Node{sized(api.KList, 2), null, null}, api.ErrTape},
		{"a list, one node short", []api.Node{sized(api.KList, 4), null, null}, api.ErrTape},
		{"two values", []api.Node{null, null}, api.ErrTape},
		{"an empty list and a value", []api.Node{sized(api.KList, 1), null}, api.ErrTape},
		{"a part that goes on behind the list", []api.Node{sized(api.KList, 3), sized(api.KList, 2), sized(api.KList, 2), null}, api.ErrTape},
		{"a part that goes on behind the part that it is of", []api.Node{sized(api.KList, 4), sized(api.KList, 2), sized(api.KList, 2), null}, api.ErrTape},
		{"the same, put right", []api.Node{sized(api.KList, 4), sized(api.KList, 3), sized(api.KList, 2), null}, api.OK},
		{"a part of size 0", []api.Node{sized(api.KList, 2), sized(api.KList, 0)}, api.ErrTape},
		{"a part of size -1", []api.Node{sized(api.KList, 3), null, sized(api.KList, -1)}, api.ErrTape},
		{"a part of the greatest size", []api.Node{sized(api.KList, 3), null, sized(api.KList, math.MaxInt)}, api.ErrTape},
		{"a part of the least size", []api.Node{sized(api.KList, 3), null, sized(api.KList, math.MinInt)}, api.ErrTape},
	} {
		wantCheck(t, c.what, c.l, c.e)
	}
}

// P6.1: parts of lists have no key; those of objects have UTF-8, no two of one object the same.
func TestCheckOfKeys(t *testing.T) {
	of := func(kind int, keys ...string) []api.Node {
		l := []api.Node{{Kind: kind, Size: len(keys) + 1}}
		for _, key := range keys {
			l = append(l, api.Node{Kind: api.KNull, Key: key, Size: 1})
		}
		return l
	}
	wantCheck(t, "a list", of(api.KList, "", "", ""), api.OK)
	wantCheck(t, "a list with a key", of(api.KList, "", "", "k"), api.ErrTape)
	for _, c := range []struct {
		keys []string
		e    api.Errno
	}{
		{nil, api.OK},
		{[]string{""}, api.OK},
		{[]string{"", "a"}, api.OK},
		{[]string{"", ""}, api.ErrTape},
		{[]string{"a", "b", "a"}, api.ErrTape},
		{[]string{"a", "b", "b"}, api.ErrTape},
		{[]string{"a", "A", "aa", "a\x00"}, api.OK},
		{[]string{"\xff"}, api.ErrTape},
		{[]string{"a", "\xc3"}, api.ErrTape},
		{[]string{"a\u0308", "\u00e4"}, api.OK},
		{someKeys(), api.OK},
	} {
		wantCheck(t, fmt.Sprintf("keys %q", c.keys), of(api.KObj, c.keys...), c.e)
	}
	wantCheck(t, "one key on two levels, and beside each other", []api.Node{
		{Kind: api.KObj, Size: 5}, {Kind: api.KObj, Key: "a", Size: 2}, {Kind: api.KNull, Key: "a", Size: 1}, {Kind: api.KObj, Key: "b", Size: 2}, {Kind: api.KNull, Key: "a", Size: 1},
	}, api.OK)
	wantCheck(t, "a key twice, with an object between", []api.Node{
		{Kind: api.KObj, Size: 4}, {Kind: api.KObj, Key: "a", Size: 2}, {Kind: api.KNull, Key: "b", Size: 1}, {Kind: api.KNull, Key: "a", Size: 1},
	}, api.ErrTape)
	wantCheck(t, "a key twice, one level down", []api.Node{
		{Kind: api.KList, Size: 4}, {Kind: api.KObj, Size: 3}, {Kind: api.KNull, Key: "a", Size: 1}, {Kind: api.KNull, Key: "a", Size: 1},
	}, api.ErrTape)
}

// P6.1: 4000 nodes and 64 levels may be, one more may not; too many nodes are told ahead of what they are, what is no tape ahead of its depth.
func TestCheckAtTheLimits(t *testing.T) {
	wantCheck(t, "4000 nodes", nulls(3999), api.OK)
	wantCheck(t, "4001 nodes", nulls(4000), api.ErrLimit)
	wantCheck(t, "4001 nodes that are none", make([]api.Node, 4001), api.ErrLimit)
	wantCheck(t, "4000 nodes that are none", make([]api.Node, 4000), api.ErrTape)
	for _, kind := range []int{api.KList, api.KObj} {
		wantCheck(t, "64 deep", nested(kind, 64), api.OK)
		wantCheck(t, "65 deep", nested(kind, 65), api.ErrDeep)
		wantCheck(t, "4000 deep", nested(kind, 4000), api.ErrDeep)
		wantCheck(t, "4001 deep", nested(kind, 4001), api.ErrLimit)
		for _, at := range []int{1, 64, 65, 69} {
			broken := nested(kind, 70)
			broken[at].S = "x"
			wantCheck(t, fmt.Sprintf("70 deep, broken at %d", at), broken, api.ErrTape)
		}
	}
	null := api.Node{Kind: api.KNull, Size: 1}
	for deep := 63; deep <= 65; deep++ {
		within := append(nested(api.KList, deep), null)
		for i := range deep {
			within[i].Size++
		}
		want := api.OK
		if deep > 63 {
			want = api.ErrDeep
		}
		wantCheck(t, fmt.Sprintf("a null within %d lists", deep), within, want)
		ahead := slices.Concat([]api.Node{{Kind: api.KList, Size: deep + 2}}, nested(api.KList, deep), []api.Node{null})
		behind := slices.Concat([]api.Node{{Kind: api.KList, Size: deep + 2}, null}, nested(api.KList, deep))
		wantCheck(t, fmt.Sprintf("a null behind %d lists", deep), ahead, want)
		wantCheck(t, fmt.Sprintf("a null ahead of %d lists", deep), behind, want)
		ahead[deep+1].N = 1
		wantCheck(t, fmt.Sprintf("a broken null behind %d lists", deep), ahead, api.ErrTape)
	}
}

// spoilt hands over what becomes of nodes with one of them changed, left out, put in twice, or changed for the next one.
func spoilt(l []api.Node, do func(l []api.Node)) {
	for at, node := range l {
		changed := func(change func(n *api.Node)) {
			c := slices.Clone(l)
			change(&c[at])
			do(c)
		}
		for kind := range 9 {
			changed(func(n *api.Node) { n.Kind = kind })
		}
		for _, key := range []string{"", "a", "b", "\u00e4", "\xff"} {
			changed(func(n *api.Node) { n.Key = key })
		}
		for _, add := range []int{-1, 1, 2, -node.Size, math.MaxInt - node.Size} {
			changed(func(n *api.Node) { n.Size += add })
		}
		changed(func(n *api.Node) { n.N++ })
		changed(func(n *api.Node) { n.S += "x" })
		changed(func(n *api.Node) { n.S += "\x80" })
		do(slices.Delete(slices.Clone(l), at, at+1))
		do(slices.Insert(slices.Clone(l), at, node))
		if at > 0 {
			changed(func(n *api.Node) { *n = l[at-1] })
			c := slices.Clone(l)
			c[at], c[at-1] = c[at-1], c[at]
			do(c)
		}
	}
}

// P6.1: Check is as the words say, of scattered tapes, and of what becomes of them with a node changed.
func TestCheckIsThatOfTheWords(t *testing.T) {
	count := map[api.Errno]int{}
	for _, v := range someValues(400) {
		l := v.nodes("")
		wantCheck(t, fmt.Sprint(l), l, api.OK)
		spoilt(l, func(l []api.Node) {
			_, want := wordCheck(l)
			if e := Check(l); e != want {
				t.Errorf("Check of %v: %d, not %d", l, e, want)
			}
			count[want]++
		})
	}
	if count[api.OK] < 5000 || count[api.ErrTape] < 5000 {
		t.Errorf("the test is wrong: %v", count)
	}
}

// P6.5: Deep is as deep as the deepest value, wherever that stands; 0, unless it may be.
func TestDeep(t *testing.T) {
	for _, c := range []struct {
		what string
		l    []api.Node
		want int
	}{
		{"the example", example(), 3}, {"a null", Null(), 1}, {"an empty list", nulls(0), 1}, {"a list", nulls(1), 2}, {"many nulls", nulls(3999), 2},
		{"64 lists", nested(api.KList, 64), 64}, {"64 objects", nested(api.KObj, 64), 64},
	} {
		if n := Deep(c.l); n != c.want {
			t.Errorf("%s: Deep: %d, not %d", c.what, n, c.want)
		}
	}
	for _, l := range noTapes() {
		if n := Deep(l); n != 0 {
			t.Errorf("Deep of what may not be: %d", n)
		}
	}
	for _, v := range someValues(1000) {
		if n := Deep(v.nodes("")); n != v.deep() {
			t.Errorf("Deep of %v: %d, not %d", v.nodes(""), n, v.deep())
		}
	}
}
