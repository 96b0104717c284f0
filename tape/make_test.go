package tape

import (
	"fmt"
	"math"
	"slices"
	"strconv"
	"testing"

	"millstream/api"
)

func wantMade(t *testing.T, what string, got []api.Node, e api.Errno, want []api.Node, wantE api.Errno) {
	t.Helper()
	if e != wantE || !slices.Equal(got, want) {
		t.Errorf("%s: %d nodes, %d; not %d nodes, %d", what, len(got), e, len(want), wantE)
	}
}

func wantList(t *testing.T, what string, l [][]api.Node, want []api.Node, wantE api.Errno) {
	t.Helper()
	got, e := List(l)
	wantMade(t, "List of "+what, got, e, want, wantE)
}

func wantObj(t *testing.T, what string, keys []string, l [][]api.Node, want []api.Node, wantE api.Errno) {
	t.Helper()
	got, e := Obj(keys, l)
	wantMade(t, "Obj of "+what, got, e, want, wantE)
}

// numbered are the keys 0, 1, and so on.
func numbered(many int) []string {
	var keys []string
	for i := range many {
		keys = append(keys, strconv.Itoa(i))
	}
	return keys
}

// P6.2: values without parts are one node, of their kind and what they say alone; a text that is no UTF-8 is nothing.
func TestValuesOfOneNode(t *testing.T) {
	wantNodes(t, "Null", Null(), []api.Node{{Kind: 1, Size: 1}})
	wantNodes(t, "Bool(false)", Bool(false), []api.Node{{Kind: 2, Size: 1}})
	wantNodes(t, "Bool(true)", Bool(true), []api.Node{{Kind: 3, Size: 1}})
	for _, n := range []int64{0, 1, -1, 300, math.MaxInt64, math.MinInt64} {
		wantNodes(t, fmt.Sprintf("Num(%d)", n), Num(n), []api.Node{{Kind: 4, N: n, Size: 1}})
	}
	for _, s := range []string{"", "a", "\x00", "\u00e4\U0001f600", "\ufffd", string(make([]byte, 1<<20))} {
		wantNodes(t, "Str of UTF-8", Str(s), []api.Node{{Kind: 5, S: s, Size: 1}})
	}
	for _, s := range []string{"\xff", "a\x80", "\xc3", "\xed\xa0\x80", "\xc0\x80", "\xf4\x90\x80\x80"} {
		wantNodes(t, fmt.Sprintf("Str(% x)", s), Str(s), nil)
	}
}

// P6.3: the chapter's examples, put together of what was put together.
func TestPutTogether(t *testing.T) {
	l, e := List([][]api.Node{Num(1), Null()})
	wantMade(t, "List", l, e, []api.Node{{Kind: 6, Size: 3}, {Kind: 4, N: 1, Size: 1}, {Kind: 1, Size: 1}}, api.OK)
	wantObj(t, "b and a", []string{"b", "a"}, [][]api.Node{l, Bool(true)}, example(), api.OK)
	wantList(t, "nothing", nil, []api.Node{{Kind: 6, Size: 1}}, api.OK)
	wantObj(t, "nothing", nil, nil, []api.Node{{Kind: 7, Size: 1}}, api.OK)
	wantObj(t, "nothing", []string{}, [][]api.Node{}, []api.Node{{Kind: 7, Size: 1}}, api.OK)
	wantObj(t, "a key of no bytes", []string{""}, [][]api.Node{Num(7)}, []api.Node{{Kind: 7, Size: 2}, {Kind: 4, N: 7, Size: 1}}, api.OK)
	wantList(t, "lists and objects", [][]api.Node{example(), l, l}, slices.Concat([]api.Node{{Kind: 6, Size: 12}}, example(), l, l), api.OK)
	keyed := example()
	keyed[0].Key = "a"
	wantObj(t, "an object with the same keys", []string{"a", "b"}, [][]api.Node{example(), Null()}, slices.Concat([]api.Node{{Kind: 7, Size: 7}}, keyed, []api.Node{{Kind: 1, Key: "b", Size: 1}}), api.OK)
}

// P6.3: a part that may not be is told, the first one, by Check's error; it goes ahead of what is too many, or too deep, in all.
func TestPartsThatMayNotBe(t *testing.T) {
	for _, bad := range noTapes() {
		e := Check(bad)
		wantList(t, "one that may not be", [][]api.Node{bad}, nil, e)
		wantList(t, "the first one that may not be", [][]api.Node{Null(), bad, {}, nulls(4000)}, nil, e)
		wantList(t, "one that may not be, behind many", [][]api.Node{nulls(3000), nulls(3000), nested(api.KList, 64), bad}, nil, e)
		wantObj(t, "one that may not be", []string{"k"}, [][]api.Node{bad}, nil, e)
		wantObj(t, "the first one that may not be", []string{"a", "b", "a", "\xff"}, [][]api.Node{Null(), bad, {}, nulls(4000)}, nil, e)
		wantObj(t, "one that may not be, behind many", []string{"a", "b", "c", "d"}, [][]api.Node{nulls(3000), nulls(3000), nested(api.KList, 64), bad}, nil, e)
		wantObj(t, "as many keys as parts first", []string{"\xff"}, [][]api.Node{bad, bad}, nil, api.ErrArg)
	}
}

// P6.3: as many keys as parts; then, member by member, the key, and whether it was there, ahead of the part.
func TestKeysThatMayNotBe(t *testing.T) {
	null, bad := Null(), []api.Node{}
	for _, c := range []struct {
		keys []string
		l    [][]api.Node
		e    api.Errno
	}{
		{[]string{"a"}, nil, api.ErrArg},
		{nil, [][]api.Node{null}, api.ErrArg},
		{[]string{"a", "b"}, [][]api.Node{null}, api.ErrArg},
		{[]string{"a"}, [][]api.Node{null, null}, api.ErrArg},
		{[]string{"\xff", "a"}, [][]api.Node{null}, api.ErrArg},
		{[]string{"a", "a", "b"}, [][]api.Node{null, null}, api.ErrArg},
		{[]string{"a", "a"}, [][]api.Node{null, null}, api.ErrTwice},
		{[]string{"", ""}, [][]api.Node{null, null}, api.ErrTwice},
		{[]string{"a", "b", "c", "a"}, [][]api.Node{null, null, null, null}, api.ErrTwice},
		{[]string{"\xff"}, [][]api.Node{null}, api.ErrUtf},
		{[]string{"a", "b\xc3"}, [][]api.Node{null, null}, api.ErrUtf},
		{[]string{"\xff", "\xff"}, [][]api.Node{null, null}, api.ErrUtf},
		{[]string{"\xff"}, [][]api.Node{bad}, api.ErrUtf},
		{[]string{"a", "a"}, [][]api.Node{null, bad}, api.ErrTwice},
		{[]string{"a", "a"}, [][]api.Node{bad, null}, api.ErrTape},
		{[]string{"a", "\xff"}, [][]api.Node{bad, null}, api.ErrTape},
		{[]string{"a", "\xff", "a"}, [][]api.Node{null, null, null}, api.ErrUtf},
		{[]string{"a", "a", "\xff"}, [][]api.Node{null, null, null}, api.ErrTwice},
		{[]string{"a", "a"}, [][]api.Node{nulls(3999), nulls(3999)}, api.ErrTwice},
		{[]string{"a", "\xff"}, [][]api.Node{nested(api.KList, 64), null}, api.ErrUtf},
	} {
		wantObj(t, fmt.Sprintf("keys %q, %d parts", c.keys, len(c.l)), c.keys, c.l, nil, c.e)
	}
	wantObj(t, "keys that are easily mistaken", someKeys(), slices.Repeat([][]api.Node{null}, len(someKeys())), (&value{kind: api.KObj, keys: someKeys(), parts: slices.Repeat([]*value{{kind: api.KNull}}, len(someKeys()))}).nodes(""), api.OK)
}

// P6.3: 4000 nodes in all may be, and 64 levels; one more may not, and too many are told ahead of too deep.
func TestPutTogetherAtTheLimits(t *testing.T) {
	null := Null()
	for _, c := range []struct {
		what string
		l    [][]api.Node
		e    api.Errno
	}{
		{"3999 nulls", slices.Repeat([][]api.Node{null}, 3999), api.OK},
		{"4000 nulls", slices.Repeat([][]api.Node{null}, 4000), api.ErrLimit},
		{"a list of 3999 nodes", [][]api.Node{nulls(3998)}, api.OK},
		{"a list of 4000 nodes", [][]api.Node{nulls(3999)}, api.ErrLimit},
		{"two lists of 3999 nodes in all", [][]api.Node{nulls(1999), nulls(1998)}, api.OK},
		{"two lists of 4000 nodes in all", [][]api.Node{nulls(1999), nulls(1999)}, api.ErrLimit},
		{"very many", slices.Repeat([][]api.Node{nulls(99)}, 10000), api.ErrLimit},
		{"63 lists", [][]api.Node{nested(api.KList, 63)}, api.OK},
		{"63 objects", [][]api.Node{null, nested(api.KObj, 63), null}, api.OK},
		{"64 lists", [][]api.Node{nested(api.KList, 64)}, api.ErrDeep},
		{"64 objects, ahead", [][]api.Node{nested(api.KObj, 64), null, nested(api.KList, 3)}, api.ErrDeep},
		{"64 objects, behind", [][]api.Node{null, nested(api.KList, 3), nested(api.KObj, 64)}, api.ErrDeep},
		{"too many, and too deep", [][]api.Node{nested(api.KList, 64), nulls(3999)}, api.ErrLimit},
		{"4000 nodes, and too deep", [][]api.Node{nested(api.KList, 64), nulls(3934)}, api.ErrDeep},
	} {
		keys := numbered(len(c.l))
		list, object := []api.Node(nil), []api.Node(nil)
		if c.e == api.OK {
			list, object = []api.Node{{Kind: api.KList}}, []api.Node{{Kind: api.KObj}}
			for i, part := range c.l {
				list = append(list, part...)
				at := len(object)
				object = append(object, part...)
				object[at].Key = keys[i]
			}
			list[0].Size, object[0].Size = len(list), len(object)
		}
		wantList(t, c.what, c.l, list, c.e)
		wantObj(t, c.what, keys, c.l, object, c.e)
	}
}

// withRoom is a copy of nodes, with spare room behind that is filled.
func withRoom(l []api.Node) []api.Node {
	room := append(slices.Clone(l), slices.Repeat([]api.Node{{Kind: 99, Key: "spare"}}, 8)...)
	return room[:len(l)]
}

// wantRoom tells whether nodes with room are as they were, and the room, too.
func wantRoom(t *testing.T, what string, l, was []api.Node) {
	t.Helper()
	room := l[:cap(l)]
	if !slices.Equal(l, was) || !slices.Equal(room[len(l):len(l)+8], slices.Repeat([]api.Node{{Kind: 99, Key: "spare"}}, 8)) {
		t.Errorf("%s: what was handed in became %v", what, room)
	}
}

// spoil writes over nodes, and over their room.
func spoil(l []api.Node) {
	l = l[:cap(l)]
	for i := range l {
		l[i] = api.Node{Kind: -1, Key: "spoilt", N: 9, S: "spoilt", Size: -1}
	}
}

// P6.6: parts and keys that are put together are only read, their spare room too, and nothing of them is kept: neither does what comes of them change with them, nor they with it.
func TestPuttingTogetherOnlyReads(t *testing.T) {
	part, other := withRoom(example()), withRoom(Null())
	l := [][]api.Node{part, other, part}
	keys := append(make([]string, 0, 8), "x", "y", "z")
	list, _ := List(l)
	object, _ := Obj(keys, l)
	listWas, objectWas := slices.Clone(list), slices.Clone(object)
	wantRoom(t, "putting together", part, example())
	wantRoom(t, "putting together", other, Null())
	if !slices.Equal(keys, []string{"x", "y", "z"}) || !slices.Equal(keys[:8][3:], make([]string, 5)) || len(l) != 3 {
		t.Errorf("keys became %q", keys)
	}
	spoil(list)
	wantNodes(t, "an object, a list spoilt", object, objectWas)
	wantRoom(t, "spoiling a list", part, example())
	spoil(object)
	wantRoom(t, "spoiling an object", part, example())
	list, _ = List(l)
	object, _ = Obj(keys, l)
	spoil(part)
	spoil(other)
	keys[0], l[0] = "spoilt", nil
	wantNodes(t, "a list, its parts spoilt", list, listWas)
	wantNodes(t, "an object, its parts spoilt", object, objectWas)
	for _, made := range []func() []api.Node{Null, func() []api.Node { return Bool(true) }, func() []api.Node { return Bool(false) }, func() []api.Node { return Num(1) }, func() []api.Node { return Str("x") }} {
		was := slices.Clone(made())
		spoil(made())
		wantNodes(t, "one node, another one spoilt", made(), was)
	}
}
