package tape

import (
	"fmt"
	"slices"
	"testing"

	"millstream/api"
)

// wantNothing tells whether all that takes a tape apart answers nothing.
func wantNothing(t *testing.T, what string, l []api.Node) {
	t.Helper()
	if kids := Kids(l); len(kids) != 0 {
		t.Errorf("%s: Kids: %v", what, kids)
	}
	for _, at := range []int{-1, 0, 1, len(l) - 1, len(l)} {
		if part := Part(l, at); len(part) != 0 {
			t.Errorf("%s: Part at %d: %v", what, at, part)
		}
	}
	for _, key := range []string{"", "a", "b", "k"} {
		if part, is := Get(l, key); len(part) != 0 || is {
			t.Errorf("%s: Get of %q: %v, %v", what, key, part, is)
		}
	}
	if sorted := Sorted(l); len(sorted) != 0 {
		t.Errorf("%s: Sorted: %v", what, sorted)
	}
	if Same(l, l) || Same(l, Null()) || Same(Null(), l) || Same(l, nil) {
		t.Errorf("%s: Same", what)
	}
	if n := Deep(l); n != 0 {
		t.Errorf("%s: Deep: %d", what, n)
	}
}

func wantPart(t *testing.T, l []api.Node, at int, want []api.Node) {
	t.Helper()
	wantNodes(t, fmt.Sprintf("Part of %v at %d", l, at), Part(l, at), want)
}

func wantGet(t *testing.T, l []api.Node, key string, want []api.Node, is bool) {
	t.Helper()
	got, gotIs := Get(l, key)
	if gotIs != is || !slices.Equal(got, want) {
		t.Errorf("Get of %q: %v, %v; not %v, %v", key, got, gotIs, want, is)
	}
}

func wantKids(t *testing.T, l []api.Node, want ...int) {
	t.Helper()
	if kids := Kids(l); !slices.Equal(kids, want) {
		t.Errorf("Kids of %v: %v, not %v", l, kids, want)
	}
}

// P6.4: the chapter's examples.
func TestPartsOfTheExample(t *testing.T) {
	l := example()
	list := []api.Node{{Kind: api.KList, Size: 3}, {Kind: api.KNum, N: 1, Size: 1}, {Kind: api.KNull, Size: 1}}
	wantKids(t, l, 1, 4)
	wantPart(t, l, 0, l)
	wantPart(t, l, 1, list)
	wantPart(t, l, 2, Num(1))
	wantPart(t, l, 3, Null())
	wantPart(t, l, 4, Bool(true))
	for _, at := range []int{5, -1, 6, -5, 1 << 62, -1 << 63} {
		wantPart(t, l, at, nil)
	}
	wantGet(t, l, "a", Bool(true), true)
	wantGet(t, l, "b", list, true)
	for _, key := range []string{"c", "", "A", "aa", "\xff", "a\x00"} {
		wantGet(t, l, key, nil, false)
	}
	wantNodes(t, "Sorted", Sorted(l), []api.Node{l[0], l[4], l[1], l[2], l[3]})
}

// P6.4: of values without parts, and of lists, there is nothing beside a key; a key within a part is none of the root's.
func TestPartsOfOtherValues(t *testing.T) {
	for _, l := range [][]api.Node{Null(), Bool(true), Bool(false), Num(1), Str("a"), nulls(0), nested(api.KObj, 1)} {
		wantKids(t, l)
		wantPart(t, l, 0, l)
		wantPart(t, l, 1, nil)
		wantGet(t, l, "", nil, false)
		wantGet(t, l, "a", nil, false)
	}
	wantKids(t, nulls(3), 1, 2, 3)
	wantGet(t, nulls(3), "", nil, false)
	within, _ := Obj([]string{"in", "out"}, [][]api.Node{example(), Num(3)})
	wantKids(t, within, 1, 6)
	wantGet(t, within, "a", nil, false)
	wantGet(t, within, "b", nil, false)
	wantGet(t, within, "in", example(), true)
	wantGet(t, within, "out", Num(3), true)
	none, _ := Obj([]string{"a", ""}, [][]api.Node{Null(), Num(5)})
	wantGet(t, none, "", Num(5), true)
	list, _ := List([][]api.Node{within, Null()})
	wantKids(t, list, 1, 8)
	wantGet(t, list, "in", nil, false)
}

// P6.4, P6.5: of what may not be, there is nothing.
func TestPartsOfWhatMayNotBe(t *testing.T) {
	for i, l := range noTapes() {
		wantNothing(t, fmt.Sprintf("what may not be, %d", i), l)
	}
	count := 0
	for _, v := range someValues(60) {
		spoilt(v.nodes(""), func(l []api.Node) {
			if _, e := wordCheck(l); e != api.OK {
				wantNothing(t, fmt.Sprint(l), l)
				count++
			}
		})
	}
	if count < 1000 {
		t.Errorf("the test is wrong: %d", count)
	}
}

// P6.4: at the limits there is still all.
func TestPartsAtTheLimits(t *testing.T) {
	if kids := Kids(nulls(3999)); len(kids) != 3999 || kids[0] != 1 || kids[3998] != 3999 {
		t.Errorf("Kids of 3999 nulls: %d", len(kids))
	}
	wantPart(t, nulls(3999), 3999, Null())
	for at := range 64 {
		wantPart(t, nested(api.KObj, 64), at, nested(api.KObj, 64-at))
	}
	wantGet(t, nested(api.KObj, 64), "k", nested(api.KObj, 63), true)
}

// P6.4: the places, parts and keys of scattered tapes, at each value of them, are those of their trees.
func TestPartsAreThoseOfTheWords(t *testing.T) {
	for _, v := range someValues(600) {
		l := v.nodes("")
		wantPartsOf(t, l, 0, v)
		var places []int
		at := 1
		for i, part := range v.parts {
			places = append(places, at)
			at += len(part.nodes(""))
			if v.kind == api.KObj {
				wantGet(t, l, v.keys[i], part.nodes(""), true)
			}
		}
		wantKids(t, l, places...)
		for _, key := range someKeys() {
			if v.kind != api.KObj || !slices.Contains(v.keys, key) {
				wantGet(t, l, key, nil, false)
			}
		}
		wantPart(t, l, len(l), nil)
	}
}

// wantPartsOf holds Part, at a place and at those within it, against a tree.
func wantPartsOf(t *testing.T, l []api.Node, at int, v *value) {
	t.Helper()
	wantPart(t, l, at, v.nodes(""))
	at++
	for _, part := range v.parts {
		wantPartsOf(t, l, at, part)
		at += len(part.nodes(""))
	}
}

// P6.6: what is taken apart, sorted, or compared is only read, and what comes of it is new memory.
func TestTakingApartOnlyReads(t *testing.T) {
	l, other := withRoom(example()), withRoom(example())
	list, _ := Get(l, "b")
	answers := [][]api.Node{Part(l, 0), Part(l, 1), Part(l, 4), list, Sorted(l)}
	var were [][]api.Node
	for _, answer := range answers {
		were = append(were, slices.Clone(answer))
	}
	kids := Kids(l)
	Check(l)
	Deep(l)
	if !Same(l, other) {
		t.Error("Same of two examples: false")
	}
	wantRoom(t, "taking apart", l, example())
	wantRoom(t, "comparing", other, example())
	for i, answer := range answers {
		spoil(answer)
		wantRoom(t, "spoiling an answer", l, example())
		for j := i + 1; j < len(answers); j++ {
			wantNodes(t, "an answer, another one spoilt", answers[j], were[j])
		}
	}
	kids[0] = -7
	wantKids(t, l, 1, 4)
	sorted := Sorted(Null())
	spoil(sorted)
	wantNodes(t, "Sorted, an earlier one spoilt", Sorted(Null()), Null())
	part := Part(l, 1)
	spoil(l)
	wantNodes(t, "a part, its tape spoilt", part, were[1])
}

// P6.7: what was put together is taken apart as it was.
func TestTakenApartAsPutTogether(t *testing.T) {
	values := someValues(600)
	next := scatter()
	for range 2000 {
		keys := someKeys()
		many := next(6)
		var l [][]api.Node
		for i := range many {
			at := i + next(len(keys)-i)
			keys[i], keys[at] = keys[at], keys[i]
			l = append(l, values[next(len(values))].nodes(""))
		}
		keys = keys[:many]
		list, e := List(l)
		object, f := Obj(keys, l)
		if e != api.OK || f != api.OK || len(Kids(list)) != many || len(Kids(object)) != many {
			t.Fatalf("%d parts: %d, %d, %v, %v", many, e, f, Kids(list), Kids(object))
		}
		for i := range l {
			wantPart(t, list, Kids(list)[i], l[i])
			wantPart(t, object, Kids(object)[i], l[i])
			wantGet(t, object, keys[i], l[i], true)
			if at := Kids(object)[i]; object[at].Key != keys[i] || list[Kids(list)[i]].Key != "" {
				t.Errorf("member %d has the key %q, not %q", i, object[at].Key, keys[i])
			}
		}
	}
}

// P6.7: each value is put together of its parts as it is.
func TestPutTogetherOfItsParts(t *testing.T) {
	for _, v := range someValues(1000) {
		l := v.nodes("")
		var keys []string
		var parts [][]api.Node
		for _, at := range Kids(l) {
			keys = append(keys, l[at].Key)
			parts = append(parts, Part(l, at))
		}
		switch v.kind {
		case api.KNull:
			wantNodes(t, "a null", Null(), l)
		case api.KFalse, api.KTrue:
			wantNodes(t, "a bool", Bool(v.kind == api.KTrue), l)
		case api.KNum:
			wantNodes(t, "a number", Num(l[0].N), l)
		case api.KStr:
			wantNodes(t, "a text", Str(l[0].S), l)
		case api.KList:
			wantList(t, fmt.Sprint(parts), parts, l, api.OK)
		case api.KObj:
			wantObj(t, fmt.Sprint(keys, parts), keys, parts, l, api.OK)
		}
	}
}

// object is one of members that are numbers, by their keys' places in the list.
func object(keys ...string) []api.Node {
	l := []api.Node{{Kind: api.KObj, Size: len(keys) + 1}}
	for _, key := range keys {
		l = append(l, api.Node{Kind: api.KNum, Key: key, N: int64(len(key)), Size: 1})
	}
	return l
}

// P6.5: keys rise byte by byte, what ends first is less; objects are sorted on each level, lists stay, and members keep what is in them.
func TestSorted(t *testing.T) {
	wantNodes(t, "keys of bytes", Sorted(object("\U00010000", "\uffff", "\u00e4", "~", "b", "ab", "aa", "a\x00", "a", "B", "9", "10", "\x00", "")),
		object("", "\x00", "10", "9", "B", "a", "a\x00", "aa", "ab", "b", "~", "\u00e4", "\uffff", "\U00010000"))
	inner := object("z", "yy", "xxx")
	list, _ := List([][]api.Node{Num(2), inner, Num(1), Str("b"), Str("a"), inner})
	outer, _ := Obj([]string{"n", "l", "m"}, [][]api.Node{inner, list, Bool(false)})
	sortedInner := object("xxx", "yy", "z")
	sortedList, _ := List([][]api.Node{Num(2), sortedInner, Num(1), Str("b"), Str("a"), sortedInner})
	want, _ := Obj([]string{"l", "m", "n"}, [][]api.Node{sortedList, Bool(false), sortedInner})
	wantNodes(t, "on each level", Sorted(outer), want)
	for _, l := range [][]api.Node{Null(), Num(3), nulls(0), nulls(3999), nested(api.KList, 64), nested(api.KObj, 64), object()} {
		wantNodes(t, "what is sorted", Sorted(l), l)
	}
	keys, rising := []string{}, []string{}
	for i := range 3999 {
		rising = append(rising, fmt.Sprintf("%04d", i))
		keys = append(keys, fmt.Sprintf("%04d", i*1000%3999))
	}
	wantNodes(t, "3999 members", Sorted(object(keys...)), object(rising...))
}

// P6.5: two say the same, if the one has the members of the other in another order, on any level; not if a list has, or a value, a key, a kind is another.
func TestSame(t *testing.T) {
	of := func(keys []string, l ...[]api.Node) []api.Node {
		o, _ := Obj(keys, l)
		return o
	}
	ab, ba := []string{"a", "b"}, []string{"b", "a"}
	one, two := Num(1), Num(2)
	list := func(l ...[]api.Node) []api.Node {
		o, _ := List(l)
		return o
	}
	for _, c := range []struct {
		what string
		a, b []api.Node
		same bool
	}{
		{"members in another order", of(ab, one, two), of(ba, two, one), true},
		{"members changed", of(ab, one, two), of(ba, one, two), false},
		{"keys changed", of(ab, one, two), of(ab, two, one), false},
		{"another key", of(ab, one, two), of([]string{"a", "c"}, one, two), false},
		{"a member more", of(ab, one, two), of([]string{"a", "b", "c"}, one, two, Null()), false},
		{"the order of members one level down", list(of(ab, one, two)), list(of(ba, two, one)), true},
		{"the order of members of members", of(ab, of(ab, one, two), one), of(ba, one, of(ba, two, one)), true},
		{"the order of a list", list(one, two), list(two, one), false},
		{"the order of a list of a member", of([]string{"a"}, list(one, two)), of([]string{"a"}, list(two, one)), false},
		{"two numbers", one, two, false},
		{"a number and a text", one, Str("1"), false},
		{"two texts", Str("a"), Str("b"), false},
		{"two texts, one the other's beginning", Str("a"), Str("ab"), false},
		{"a letter in two ways", Str("\u00e4"), Str("a\u0308"), false},
		{"false and true", Bool(false), Bool(true), false},
		{"null and false", Null(), Bool(false), false},
		{"null and 0", Null(), Num(0), false},
		{"a list and an object without parts", list(), of(nil), false},
		{"no list and one of one", list(), list(one), false},
		{"a value and a list of it", one, list(one), false},
		{"other shapes of as many nodes", list(list(), one), list(list(one)), false},
	} {
		if Same(c.a, c.b) != c.same || Same(c.b, c.a) != c.same {
			t.Errorf("%s: Same: %v, %v", c.what, Same(c.a, c.b), Same(c.b, c.a))
		}
		if !Same(c.a, c.a) || !Same(c.b, c.b) {
			t.Errorf("%s: Same of one and itself: false", c.what)
		}
	}
	for _, a := range noTapes() {
		for _, b := range noTapes() {
			if Same(a, b) {
				t.Errorf("Same of two that may not be: %v, %v", a, b)
			}
		}
	}
}

// turned is a value with the members of all its objects in another order.
func (v *value) turned(next func(below int) int) *value {
	w := &value{kind: v.kind, n: v.n, s: v.s, keys: slices.Clone(v.keys)}
	for _, part := range v.parts {
		w.parts = append(w.parts, part.turned(next))
	}
	for i := range w.parts {
		if j := next(i + 1); v.kind == api.KObj {
			w.parts[i], w.parts[j] = w.parts[j], w.parts[i]
			w.keys[i], w.keys[j] = w.keys[j], w.keys[i]
		}
	}
	return w
}

// P6.8: what is sorted says the same, has as many nodes, is as deep, and is sorted as it is; so does it in whatever order the members were.
func TestSortedSaysTheSame(t *testing.T) {
	next := scatter()
	moved := 0
	for _, v := range someValues(1500) {
		l := v.nodes("")
		sorted := Sorted(l)
		wantNodes(t, fmt.Sprintf("Sorted of %v", l), sorted, v.sorted().nodes(""))
		if !Same(l, sorted) || !Same(sorted, l) || len(sorted) != len(l) || Deep(sorted) != Deep(l) || Check(sorted) != api.OK {
			t.Errorf("Sorted of %v does not say the same: %v", l, sorted)
		}
		wantNodes(t, "Sorted of what is sorted", Sorted(sorted), sorted)
		for range 3 {
			turned := v.turned(next).nodes("")
			if !Same(l, turned) || !Same(turned, l) || !Same(turned, sorted) {
				t.Errorf("%v does not say the same as %v", turned, l)
			}
			wantNodes(t, "Sorted, in another order", Sorted(turned), sorted)
			if !slices.Equal(l, turned) {
				moved++
			}
		}
	}
	if moved < 500 {
		t.Errorf("the test is wrong: %d moved", moved)
	}
}

// P6.8: two say the same just if they are sorted alike: of each two of some, and of some and what becomes of them with a node changed.
func TestSameJustIfSortedAlike(t *testing.T) {
	values := someValues(250)
	same, unlike := 0, 0
	compare := func(a, b []api.Node, v, w *value) {
		want := slices.Equal(v.sorted().nodes(""), w.sorted().nodes(""))
		if Same(a, b) != want || slices.Equal(Sorted(a), Sorted(b)) != want {
			t.Errorf("Same of %v and %v: not %v", a, b, want)
		}
		if want {
			same++
		} else {
			unlike++
		}
	}
	for _, v := range values {
		l := v.nodes("")
		for _, w := range values {
			compare(l, w.nodes(""), v, w)
		}
		spoilt(l, func(other []api.Node) {
			if w, e := wordCheck(other); e == api.OK {
				compare(l, other, v, w)
			} else if Same(l, other) {
				t.Errorf("Same of %v and %v, which may not be", l, other)
			}
		})
	}
	if same < 1000 || unlike < 1000 {
		t.Errorf("the test is wrong: %d same, %d unlike", same, unlike)
	}
}
