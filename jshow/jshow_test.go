package jshow

import (
	"math"
	"slices"
	"strings"
	"testing"

	"millstream/api"
	"millstream/tape"
)

const most = 1 << 20 // bytes of a text

// P8.1: the chapter's examples.
func TestExamples(t *testing.T) {
	wantShow(t, example(), `{"b":[1,null],"a":true}`)
	wantCanon(t, example(), `{"a":true,"b":[1,null]}`)
	for _, show := range []func(*testing.T, []api.Node, string){wantShow, wantCanon} {
		show(t, tape.Num(-9223372036854775808), "-9223372036854775808")
		show(t, tape.Str("\"\n"), `"\"\n"`)
		show(t, []api.Node{{Kind: api.KList, Size: 1}}, "[]")
	}
	wantErrors(t, "nothing", nil, api.ErrTape, api.ErrTape)
	wantErrors(t, "nothing", []api.Node{}, api.ErrTape, api.ErrTape)
	wantErrors(t, "a list without its parts", example()[1:2], api.ErrTape, api.ErrTape)
	wantErrors(t, "a list of a size without parts", []api.Node{{Kind: api.KList, Size: 3}}, api.ErrTape, api.ErrTape)
}

// P8.1: each kind of value by itself, in lists, and below keys.
func TestKinds(t *testing.T) {
	for _, c := range []struct {
		node api.Node
		want string
	}{
		{api.Node{Kind: api.KNull}, "null"}, {api.Node{Kind: api.KFalse}, "false"}, {api.Node{Kind: api.KTrue}, "true"},
		{api.Node{Kind: api.KNum}, "0"}, {api.Node{Kind: api.KNum, N: 7}, "7"}, {api.Node{Kind: api.KNum, N: -1}, "-1"}, {api.Node{Kind: api.KNum, N: 10}, "10"}, {api.Node{Kind: api.KNum, N: -100}, "-100"},
		{api.Node{Kind: api.KNum, N: math.MaxInt64}, "9223372036854775807"}, {api.Node{Kind: api.KNum, N: math.MinInt64}, "-9223372036854775808"}, {api.Node{Kind: api.KNum, N: 1e18}, "1000000000000000000"}, {api.Node{Kind: api.KNum, N: 1<<53 + 1}, "9007199254740993"},
		{api.Node{Kind: api.KStr}, `""`}, {api.Node{Kind: api.KStr, S: "a"}, `"a"`}, {api.Node{Kind: api.KStr, S: "[1]"}, `"[1]"`}, {api.Node{Kind: api.KStr, S: "null"}, `"null"`},
		{api.Node{Kind: api.KList}, "[]"}, {api.Node{Kind: api.KObj}, "{}"},
	} {
		node := c.node
		node.Size = 1
		keyed, other := node, node
		keyed.Key, other.Key = "k", "\n"
		list := func(size int, parts ...api.Node) []api.Node {
			return append([]api.Node{{Kind: api.KList, Size: size}}, parts...)
		}
		wantShow(t, []api.Node{node}, c.want)
		wantShow(t, list(2, node), "["+c.want+"]")
		wantShow(t, list(4, node, node, node), "["+c.want+","+c.want+","+c.want+"]")
		wantShow(t, list(3, list(2, node)...), "[["+c.want+"]]")
		wantShow(t, []api.Node{{Kind: api.KObj, Size: 2}, node}, `{"":`+c.want+"}")
		wantShow(t, []api.Node{{Kind: api.KObj, Size: 3}, keyed, other}, `{"k":`+c.want+`,"\n":`+c.want+"}")
		wantCanon(t, []api.Node{{Kind: api.KObj, Size: 3}, keyed, other}, `{"\n":`+c.want+`,"k":`+c.want+"}")
	}
	wantShow(t, []api.Node{
		{Kind: api.KList, Size: 7}, {Kind: api.KList, Size: 1}, {Kind: api.KList, Size: 3}, {Kind: api.KObj, Size: 2}, {Kind: api.KObj, Key: "a", Size: 1}, {Kind: api.KNum, N: 1, Size: 1}, {Kind: api.KObj, Size: 1},
	}, `[[],[{"a":{}}],1,{}]`)
}

// P8.1: texts, and keys, stand as their tidy literals: what has to be escaped is, and nothing else.
func TestLiterals(t *testing.T) {
	for r, spelt := range map[rune]string{
		'"': `\"`, '\\': `\\`, '\b': `\b`, '\f': `\f`, '\n': `\n`, '\r': `\r`, '\t': `\t`, 0x00: `\u0000`, 0x01: `\u0001`, 0x07: `\u0007`, 0x0b: `\u000b`, 0x10: `\u0010`, 0x1b: `\u001b`, 0x1f: `\u001f`,
		' ': " ", '/': "/", '<': "<", '>': ">", '&': "&", '\'': "'", 0x7f: "\x7f", 0x80: "\xc2\x80", 0xa0: "\xc2\xa0", 0xe4: "\xc3\xa4", 0x2028: "\xe2\x80\xa8", 0xfffd: "\xef\xbf\xbd", 0xffff: "\xef\xbf\xbf", 0x1f600: "\xf0\x9f\x98\x80", 0x10ffff: "\xf4\x8f\xbf\xbf",
	} {
		text := "a" + string(r) + "b"
		wantShow(t, tape.Str(text), `"a`+spelt+`b"`)
		wantShow(t, []api.Node{{Kind: api.KObj, Size: 2}, {Kind: api.KStr, Key: text, S: string(r), Size: 1}}, `{"a`+spelt+`b":"`+spelt+`"}`)
	}
	for r := range rune(0x3000) {
		wantWords(t, &value{kind: api.KObj, keys: []string{string(r)}, parts: []*value{{kind: api.KStr, s: string(r)}}})
	}
}

// P8.1: Show leaves members as they stand; Canon lays them by rising keys, those of each object, by the keys' own bytes, and leaves lists as they are.
func TestOrderOfMembers(t *testing.T) {
	keys := []string{"", "\x00", "\n", " ", "\"", "#", "/", "0", "10", "2", "A", "Z", "\\", "a", "a\x00", "aa", "ab", "b", "ba", "z", "\x7f", "\u0080", "\u00e4", "\ud7ff", "\ue000", "\uffff", "\U00010000", "\U0010ffff"}
	v := &value{kind: api.KObj, keys: keys}
	for i := range keys {
		v.parts = append(v.parts, &value{kind: api.KNum, n: int64(i)})
	}
	want := v.text()
	next := scatter()
	for range 100 {
		wantCanon(t, v.inOrder(shuffled(next)).nodes(""), want)
	}
	for _, order := range []func([]string) []string{rising, falling} {
		wantShow(t, v.inOrder(order).nodes(""), v.inOrder(order).text())
		wantCanon(t, v.inOrder(order).nodes(""), want)
	}
	leaf := func(n int64) *value { return &value{kind: api.KNum, n: n} }
	inner := &value{kind: api.KObj, keys: []string{"d", "c"}, parts: []*value{leaf(2), leaf(1)}}
	outer := &value{kind: api.KObj, keys: []string{"y", "x"}, parts: []*value{{kind: api.KList, keys: []string{"", ""}, parts: []*value{leaf(9), inner}}, inner}}
	wantShow(t, outer.nodes(""), `{"y":[9,{"d":2,"c":1}],"x":{"d":2,"c":1}}`)
	wantCanon(t, outer.nodes(""), `{"x":{"c":1,"d":2},"y":[9,{"c":1,"d":2}]}`)
}

// P8.1: Show and Canon are as the words say, of scattered values.
func TestTextsAreThoseOfTheWords(t *testing.T) {
	next := scatter()
	for _, v := range someValues(3000) {
		wantWords(t, v)
		wantWords(t, v.inOrder(falling))
		wantWords(t, v.inOrder(shuffled(next)))
	}
}

// P8.1: 4000 nodes are shown, and 64 levels; of more Check's error is told, ahead of a text that is too long. Sorted answers nothing of them, so that of Canon it is ErrTape.
func TestManyAndDeep(t *testing.T) {
	wantShow(t, nulls(3999), "["+strings.Repeat("null,", 3998)+"null]")
	wantCanon(t, nulls(3999), "["+strings.Repeat("null,", 3998)+"null]")
	wantShow(t, nested(api.KList, 64), strings.Repeat("[", 64)+strings.Repeat("]", 64))
	wantShow(t, nested(api.KObj, 64), strings.Repeat(`{"k":`, 63)+"{}"+strings.Repeat("}", 63))
	wantCanon(t, nested(api.KObj, 64), strings.Repeat(`{"k":`, 63)+"{}"+strings.Repeat("}", 63))
	wantErrors(t, "4001 nodes", nulls(4000), api.ErrLimit, api.ErrTape)
	wantErrors(t, "4001 nodes that are none", make([]api.Node, 4001), api.ErrLimit, api.ErrTape)
	wantErrors(t, "4000 nodes that are none", make([]api.Node, 4000), api.ErrTape, api.ErrTape)
	wantErrors(t, "65 lists", nested(api.KList, 65), api.ErrDeep, api.ErrTape)
	wantErrors(t, "65 objects", nested(api.KObj, 65), api.ErrDeep, api.ErrTape)
	long := strings.Repeat("a", most)
	deep := nested(api.KObj, 65)
	deep[1].Key = long
	wantErrors(t, "65 objects below a long key", deep, api.ErrDeep, api.ErrTape)
	wantErrors(t, "a long text of a size without parts", []api.Node{{Kind: api.KStr, S: long, Size: 2}}, api.ErrTape, api.ErrTape)
	wantErrors(t, "a long text that is no UTF-8", []api.Node{{Kind: api.KStr, S: long + "\xff", Size: 1}}, api.ErrTape, api.ErrTape)
	wantErrors(t, "a long text, and what is no node", []api.Node{{Kind: api.KList, Size: 3}, {Kind: api.KStr, S: long, Size: 1}, {}}, api.ErrTape, api.ErrTape)
}

// P8.1: of nodes that become of tapes with one of them changed, left out, or put in twice, Show tells what Check tells, and shows what may be.
func TestWhatMayNotBe(t *testing.T) {
	count := map[api.Errno]int{}
	look := func(l []api.Node) {
		e := tape.Check(l)
		count[e]++
		if text, got := Show(l); got != e || (e == api.OK) == (text == "") {
			t.Errorf("Show of %v: %q, %d; not %d", l, text, got, e)
		}
		if text, got := Canon(l); got != e || (e == api.OK) == (text == "") {
			t.Errorf("Canon of %v: %q, %d; not %d", l, text, got, e)
		}
	}
	for _, v := range someValues(300) {
		l := v.nodes("")
		for at := range l {
			changed := func(change func(n *api.Node)) {
				c := slices.Clone(l)
				change(&c[at])
				look(c)
			}
			for kind := -1; kind <= 9; kind++ {
				changed(func(n *api.Node) { n.Kind = kind })
			}
			for _, key := range []string{"", "a", "b", "\xff"} {
				changed(func(n *api.Node) { n.Key = key })
			}
			for _, size := range []int{math.MinInt, -1, 0, 1, 2, 3, len(l), math.MaxInt} {
				changed(func(n *api.Node) { n.Size = size })
			}
			changed(func(n *api.Node) { n.N++ })
			changed(func(n *api.Node) { n.S += "x" })
			changed(func(n *api.Node) { n.S += "\x80" })
			look(slices.Delete(slices.Clone(l), at, at+1))
			look(slices.Insert(slices.Clone(l), at, l[at]))
		}
	}
	if count[api.OK] < 1000 || count[api.ErrTape] < 1000 {
		t.Errorf("the test is wrong: %v", count)
	}
}

// filler is a text of so many bytes, none of which is escaped, in few runes.
func filler(bytes int) string {
	return strings.Repeat("a", bytes%4) + strings.Repeat("\U0001f600", bytes/4)
}

// together are a text and a value, in each way in which they may stand in a list or an object; beside their own bytes that is five more.
func together(text string, v *value) []*value {
	long := &value{kind: api.KStr, s: text}
	return []*value{
		{kind: api.KList, keys: []string{"", ""}, parts: []*value{long, v}},
		{kind: api.KList, keys: []string{"", ""}, parts: []*value{v, long}},
		{kind: api.KObj, keys: []string{text}, parts: []*value{v}},
	}
}

// P8.1: a text of 2^20 bytes is shown; of one byte more, or of more, nothing, be it the literal or any byte behind it that goes beyond.
func TestLongTexts(t *testing.T) {
	for _, v := range []*value{
		{kind: api.KNull}, {kind: api.KFalse}, {kind: api.KTrue}, {kind: api.KNum, n: -12}, {kind: api.KNum, n: 3}, {kind: api.KStr, s: "a\x01"}, {kind: api.KList},
		{kind: api.KObj, keys: []string{"b", "\n"}, parts: []*value{{kind: api.KNum}, {kind: api.KList}}},
	} {
		size := len(v.text())
		for _, fit := range together(filler(most-5-size), v) {
			wantWords(t, fit)
		}
		for _, fit := range together(filler(most-6-size), v) {
			wantWords(t, fit)
		}
		for _, long := range together(filler(most-4-size), v) {
			wantErrors(t, "one byte too many, with "+v.text(), long.nodes(""), api.ErrLimit, api.ErrLimit)
		}
		for more := range size + 6 {
			long := together(filler(most-3-size+more), v)[0].nodes("")
			if shown, e := Show(long); shown != "" || e != api.ErrLimit {
				t.Errorf("%d bytes too many, with %s: Show: %s, %d", more+2, v.text(), short(shown), e)
			}
		}
	}
}

// P8.1: it is the text's bytes that are counted, not those of what its literals say, nor its nodes.
func TestLongLiterals(t *testing.T) {
	wantShow(t, tape.Str(filler(most-2)), `"`+filler(most-2)+`"`)
	wantErrors(t, "a literal", tape.Str(filler(most-1)), api.ErrLimit, api.ErrLimit)
	wantErrors(t, "a literal", tape.Str(filler(most)), api.ErrLimit, api.ErrLimit)
	wantErrors(t, "a literal", tape.Str(filler(most+1)), api.ErrLimit, api.ErrLimit)
	wantErrors(t, "a literal", tape.Str(filler(5*most)), api.ErrLimit, api.ErrLimit)
	for text, spelt := range map[string]string{"\x01": `\u0001`, "\"": `\"`, "\n": `\n`, "\\": `\\`} {
		fit := (most - 2) / len(spelt)
		wantShow(t, tape.Str(strings.Repeat(text, fit)), `"`+strings.Repeat(spelt, fit)+`"`)
		wantErrors(t, "escapes", tape.Str(strings.Repeat(text, fit+1)), api.ErrLimit, api.ErrLimit)
		key := []api.Node{{Kind: api.KObj, Size: 2}, {Kind: api.KNull, Key: strings.Repeat(text, fit), Size: 1}}
		wantErrors(t, "escapes in a key", key, api.ErrLimit, api.ErrLimit)
	}
	text := filler(most)
	texts := append([]api.Node{{Kind: api.KList, Size: 11}}, slices.Repeat([]api.Node{{Kind: api.KStr, S: text, Size: 1}}, 10)...)
	wantErrors(t, "texts", texts, api.ErrLimit, api.ErrLimit)
	many := nulls(3999)
	size := len("["+strings.Repeat(`"",`, 3999)+"]") - 1
	for i := range many[1:] {
		many[i+1] = api.Node{Kind: api.KStr, S: filler((most - size) / 3999), Size: 1}
	}
	many[3999].S += filler((most - size) % 3999)
	if shown, e := Show(many); len(shown) != most || e != api.OK {
		t.Errorf("many texts: %s, %d", short(shown), e)
	}
	many[2000].S += "a"
	wantErrors(t, "many texts", many, api.ErrLimit, api.ErrLimit)
}

// P8.2: what is handed in is only read, its spare room, too; what is answered stays as it is when that changes.
func TestOnlyRead(t *testing.T) {
	for _, v := range someValues(500) {
		l := v.inOrder(falling).nodes("")
		whole := append(slices.Clone(l), slices.Repeat([]api.Node{{Kind: 99, Key: "spare", N: 99, S: "room", Size: 99}}, 8)...)
		before := slices.Clone(whole)
		handed := whole[:len(l)]
		shown, _ := Show(handed)
		canon, _ := Canon(handed)
		if !slices.Equal(whole, before) {
			t.Errorf("%v became %v", before, whole)
		}
		clear(whole)
		if shown != v.inOrder(falling).text() || canon != v.inOrder(rising).text() {
			t.Errorf("of %v, taken away: %q, %q", l, shown, canon)
		}
	}
}
