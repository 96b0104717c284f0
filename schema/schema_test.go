package schema

import (
	"fmt"
	"math"
	"slices"
	"strings"
	"testing"

	"millstream/api"
)

// longName has as many bytes as a name may have.
const longName = "a_2345678901234567890123456789_z"

var (
	aBool       = api.Type{Kind: api.TBool}
	anInt32     = api.Type{Kind: api.TInt32}
	anInt64     = api.Type{Kind: api.TInt64}
	aString     = api.Type{Kind: api.TString}
	someOf      = api.Type{Kind: api.TBytes}
	maybeBool   = api.Type{Kind: api.TBool, Null: true}
	maybeString = api.Type{Kind: api.TString, Null: true}

	nothing = api.Cell{Null: true}
)

// num is a cell of a bool, or a whole number; run one of a string, or bytes.
func num(n int64) api.Cell  { return api.Cell{N: n} }
func run(s string) api.Cell { return api.Cell{S: s} }

// example is the chapter's, of two columns.
func example() api.Schema {
	return api.Schema{
		Columns: []api.Column{{Id: 1, Name: "id", Type: anInt64}, {Id: 3, Name: "name", Type: maybeString, Default: nothing}},
		Keys:    []int{0},
	}
}

// bools is a schema of so many columns, and of so many keys, from the first one on.
func bools(columns, keys int) api.Schema {
	var s api.Schema
	for i := range columns {
		s.Columns = append(s.Columns, api.Column{Id: i + 1, Name: fmt.Sprintf("c%d", i), Type: aBool})
	}
	for i := range keys {
		s.Keys = append(s.Keys, i)
	}
	return s
}

// with is a schema, with something done to it.
func with(s api.Schema, do func(s *api.Schema)) api.Schema {
	do(&s)
	return s
}

// P11.1, P11.2: the chapter's examples.
func TestExamples(t *testing.T) {
	for s, want := range map[string]bool{"a": true, "a_1": true, "A": false, "1a": false, "": false} {
		if got := IsName(s); got != want {
			t.Errorf("IsName(%q): %v", s, got)
		}
	}
	wantCheck(t, example(), api.OK)
	wantPlace(t, example(), 3, 1, true)
	wantNamed(t, example(), "name", 1, true)
	wantNamed(t, example(), "x", 0, false)
}

// P11.1: names, and what is none.
func TestIsName(t *testing.T) {
	for _, s := range someNames() {
		if !IsName(s) {
			t.Errorf("%q is no name", s)
		}
	}
	for _, s := range someOthers() {
		if IsName(s) {
			t.Errorf("%q is a name", s)
		}
	}
}

// P11.1: IsName of all texts of at most two bytes, and of each byte at each place of a long one.
func TestIsNameIsThatOfTheWords(t *testing.T) {
	texts := []string{""}
	for a := range 256 {
		texts = append(texts, string([]byte{byte(a)}))
		for b := range 256 {
			texts = append(texts, string([]byte{byte(a), byte(b)}))
		}
	}
	for place := range len(longName) {
		for b := range 256 {
			texts = append(texts, longName[:place]+string([]byte{byte(b)})+longName[place+1:])
		}
	}
	for many := range 70 {
		texts = append(texts, strings.Repeat("a", many), "a"+strings.Repeat("_", many), strings.Repeat("0", many))
	}
	for _, s := range texts {
		if got := IsName(s); got != wordIsName(s) {
			t.Errorf("IsName(%q): %v", s, got)
		}
	}
}

// P11.1: of columns there are 1 to 32.
func TestCheckOfHowManyColumns(t *testing.T) {
	wantCheck(t, api.Schema{}, api.ErrArg)
	wantCheck(t, api.Schema{Columns: []api.Column{}, Keys: []int{}}, api.ErrArg)
	wantCheck(t, bools(0, 1), api.ErrArg)
	for _, many := range []int{1, 2, 31, 32} {
		wantCheck(t, bools(many, 0), api.OK)
	}
	for _, many := range []int{33, 34, 64, 10000} {
		wantCheck(t, bools(many, 0), api.ErrArg)
		wantCheck(t, bools(many, 1), api.ErrArg)
	}
}

// P11.1: ids are from 1 to 2^20, and rise, no two the same.
func TestCheckOfIds(t *testing.T) {
	ids := func(ids ...int) api.Schema {
		s := bools(len(ids), 0)
		for i, id := range ids {
			s.Columns[i].Id = id
		}
		return s
	}
	for _, may := range [][]int{{1}, {2}, {1048576}, {1048575}, {1, 2}, {1, 1048576}, {1048575, 1048576}, {1, 3, 9, 27}} {
		wantCheck(t, ids(may...), api.OK)
	}
	for _, mayNot := range [][]int{
		{0}, {-1}, {1048577}, {math.MaxInt}, {math.MinInt}, {1<<32 + 1}, {1 << 32},
		{1, 1}, {2, 1}, {0, 1}, {-1, 1}, {1, 0}, {1, -1}, {1, 1048577}, {1048576, 1}, {1048576, 1048576}, {1, 3, 2}, {1, 3, 3}, {3, 1, 2}, {1, math.MaxInt}, {math.MaxInt, 1}, {math.MaxInt, math.MinInt, 1},
	} {
		wantCheck(t, ids(mayNot...), api.ErrArg)
	}
}

// P11.1: names are such, each once.
func TestCheckOfNames(t *testing.T) {
	for _, many := range []int{1, 2, 32} {
		for place := range many {
			named := func(name string) api.Schema {
				return with(bools(many, 0), func(s *api.Schema) { s.Columns[place].Name = name })
			}
			for _, name := range someNames() {
				wantCheck(t, named(name), api.OK)
			}
			for _, other := range someOthers() {
				wantCheck(t, named(other), api.ErrArg)
			}
			for other := range many {
				if other != place {
					wantCheck(t, named(fmt.Sprintf("c%d", other)), api.ErrArg)
				}
			}
		}
	}
}

// P11.1: types may be, and defaults are of them.
func TestCheckOfTypesAndDefaults(t *testing.T) {
	count := map[api.Errno]int{}
	for _, of := range append(typesThatMay(), typesThatMayNot()...) {
		for _, c := range anyCells() {
			for place := range 3 {
				s := with(bools(3, 0), func(s *api.Schema) { s.Columns[place].Type, s.Columns[place].Default = of, c })
				e := wordCheck(s)
				wantCheck(t, s, e)
				count[e]++
			}
		}
	}
	if count[api.OK] < 100 || count[api.ErrArg] < 100 {
		t.Errorf("the test is wrong: %v", count)
	}
}

// P11.1: keys are at most 8 places of columns, that rise, each once.
func TestCheckOfKeys(t *testing.T) {
	keys := func(keys ...int) api.Schema {
		return with(bools(32, 0), func(s *api.Schema) { s.Keys = keys })
	}
	for _, may := range [][]int{nil, {}, {0}, {31}, {0, 31}, {0, 1, 2}, {30, 31}, {0, 1, 2, 3, 4, 5, 6, 7}, {24, 25, 26, 27, 28, 29, 30, 31}} {
		wantCheck(t, keys(may...), api.OK)
	}
	for _, mayNot := range [][]int{
		{-1}, {32}, {33}, {math.MaxInt}, {math.MinInt}, {1 << 32}, {0, 32}, {-1, 0}, {31, 32},
		{0, 0}, {31, 31}, {1, 0}, {0, 2, 1}, {0, 1, 1}, {0, -1}, {math.MaxInt, 0}, {math.MaxInt, math.MinInt, 0},
		{0, 1, 2, 3, 4, 5, 6, 7, 8}, {0, 1, 2, 3, 4, 5, 6, 7, 7},
	} {
		wantCheck(t, keys(mayNot...), api.ErrArg)
	}
	wantCheck(t, bools(1, 1), api.OK)
	wantCheck(t, bools(1, 2), api.ErrArg)
	wantCheck(t, bools(8, 8), api.OK)
	wantCheck(t, bools(9, 9), api.ErrArg)
	wantCheck(t, bools(32, 32), api.ErrArg)
}

// P11.1: no column of the key may be nothing; others may.
func TestCheckOfKeysThatMayBeNothing(t *testing.T) {
	for _, of := range typesThatMay() {
		for place := range 3 {
			for _, keys := range [][]int{nil, {0}, {1}, {2}, {0, 1}, {0, 2}, {1, 2}, {0, 1, 2}} {
				s := bools(3, 0)
				s.Columns[place].Type, s.Columns[place].Default, s.Keys = of, cellsOf(of)[0], keys
				want := api.OK
				if of.Null && slices.Contains(keys, place) {
					want = api.ErrArg
				}
				wantCheck(t, s, want)
			}
		}
	}
}

// spoilt is a schema with one thing in it changed, that may make it none.
func spoilt(next func(below int) int, s api.Schema) api.Schema {
	s = copyOf(s)
	place := next(len(s.Columns))
	col := &s.Columns[place]
	switch next(10) {
	case 0:
		col.Id = one(next, []int{0, -1, 1, 2, 1048576, 1048577, col.Id + 1, col.Id - 1, s.Columns[0].Id, s.Columns[len(s.Columns)-1].Id})
	case 1:
		col.Name = one(next, someNames())
	case 2:
		col.Name = one(next, someOthers())
	case 3:
		col.Name = one(next, s.Columns).Name
	case 4:
		col.Type = one(next, append(typesThatMay(), typesThatMayNot()...))
	case 5:
		col.Default = one(next, anyCells())
	case 6:
		col.Type.Null = !col.Type.Null
	case 7:
		s.Keys = append(s.Keys, next(len(s.Columns)+2)-1)
	case 8:
		s.Columns = slices.Delete(s.Columns, place, place+1)
	case 9:
		s.Columns[0], s.Columns[place] = s.Columns[place], s.Columns[0]
	}
	return s
}

// P11.1: Check is that of the words, of schemas in which one thing, or some, are changed.
func TestCheckIsThatOfTheWords(t *testing.T) {
	next := scatter()
	count := map[api.Errno]int{}
	for range 20000 {
		s := scatteredSchema(next, 1+next(5))
		wantCheck(t, s, api.OK)
		s = spoilt(next, s)
		if next(4) == 0 && len(s.Columns) > 0 {
			s = spoilt(next, s)
		}
		e := wordCheck(s)
		wantCheck(t, s, e)
		count[e]++
	}
	if count[api.OK] < 1000 || count[api.ErrArg] < 1000 {
		t.Errorf("the test is wrong: %v", count)
	}
}

// P11.2: lists without elements are as nothing.
func TestSameOfEmptyLists(t *testing.T) {
	wantSame(t, api.Schema{}, api.Schema{Columns: []api.Column{}, Keys: []int{}}, true)
	wantSame(t, bools(2, 0), with(bools(2, 0), func(s *api.Schema) { s.Keys = []int{} }), true)
	wantSame(t, api.Schema{Keys: []int{0}}, api.Schema{Columns: []api.Column{}, Keys: []int{0}}, true)
	wantSame(t, api.Schema{}, example(), false)
	wantSame(t, example(), example(), true)
}

// P11.2: each field of each column, and each key, has to be the same, be it of a schema that may be or not.
func TestSameLooksAtEachField(t *testing.T) {
	for _, do := range []func(s *api.Schema, place int){
		func(s *api.Schema, place int) { s.Columns[place].Id = 77 },
		func(s *api.Schema, place int) { s.Columns[place].Id = -s.Columns[place].Id },
		func(s *api.Schema, place int) { s.Columns[place].Name = "other" },
		func(s *api.Schema, place int) { s.Columns[place].Name += "_" },
		func(s *api.Schema, place int) { s.Columns[place].Type.Kind = 7 },
		func(s *api.Schema, place int) { s.Columns[place].Type.Null = true },
		func(s *api.Schema, place int) { s.Columns[place].Default.Null = true },
		func(s *api.Schema, place int) { s.Columns[place].Default.N = 1 },
		func(s *api.Schema, place int) { s.Columns[place].Default.S = "a" },
		func(s *api.Schema, place int) { s.Keys[place] = 5 },
		func(s *api.Schema, place int) { s.Keys[place] = -1 },
		func(s *api.Schema, place int) { s.Keys = slices.Delete(s.Keys, place, place+1) },
		func(s *api.Schema, place int) { s.Keys = slices.Insert(s.Keys, place, 0) },
		func(s *api.Schema, place int) { s.Columns = slices.Delete(s.Columns, place, place+1) },
		func(s *api.Schema, place int) { s.Columns = slices.Insert(s.Columns, place, s.Columns[place]) },
	} {
		for place := range 3 {
			a, b := bools(3, 3), bools(3, 3)
			wantSame(t, a, b, true)
			do(&b, place)
			wantSame(t, a, b, false)
			do(&a, place)
			wantSame(t, a, b, true)
		}
	}
	wantSame(t, bools(3, 0), bools(4, 0), false)
	wantSame(t, bools(3, 2), bools(3, 3), false)
	turned := with(bools(2, 0), func(s *api.Schema) { slices.Reverse(s.Columns) })
	wantSame(t, bools(2, 0), turned, false)
	wantSame(t, turned, copyOf(turned), true)
}

// P11.2: a copy is the same, of whatever schema.
func TestCopy(t *testing.T) {
	next := scatter()
	l := []api.Schema{{}, {Columns: []api.Column{}}, {Keys: []int{3, -1, 3}}, example(), bools(100, 40)}
	for range 300 {
		s := scatteredSchema(next, 1+next(6))
		l = append(l, s, spoilt(next, s))
	}
	for _, s := range l {
		if got := Copy(s); !sameAs(got, s) {
			t.Errorf("Copy(%s): %s", told(s), told(got))
		}
		wantSame(t, s, Copy(s), true)
	}
}

// P11.2: places of ids and names that are there, and of such that are not.
func TestPlaceAndNamed(t *testing.T) {
	s := example()
	wantPlace(t, s, 1, 0, true)
	wantPlace(t, s, 3, 1, true)
	for _, id := range []int{0, 2, 4, -1, -3, math.MaxInt, math.MinInt, 1<<32 + 3} {
		wantPlace(t, s, id, 0, false)
		wantPlace(t, api.Schema{}, id, 0, false)
	}
	wantNamed(t, s, "id", 0, true)
	wantNamed(t, s, "name", 1, true)
	for _, name := range []string{"", "i", "idd", "ID", "id ", " id", "nam", "names", "name\x00", "x"} {
		wantNamed(t, s, name, 0, false)
		wantNamed(t, api.Schema{}, name, 0, false)
	}
}

// P11.2: of whatever schema the first column is found.
func TestTheFirstColumnIsFound(t *testing.T) {
	s := api.Schema{Columns: []api.Column{{Id: 5, Name: "b"}, {Id: -1, Name: ""}, {Id: 5, Name: "a"}, {Id: 0, Name: "b"}, {Id: -1, Name: "\xff"}, {Id: 2, Name: ""}}}
	for id, place := range map[int]int{5: 0, -1: 1, 0: 3, 2: 5} {
		wantPlace(t, s, id, place, true)
	}
	for name, place := range map[string]int{"b": 0, "": 1, "a": 2, "\xff": 4} {
		wantNamed(t, s, name, place, true)
	}
	wantPlace(t, s, 1, 0, false)
	wantNamed(t, s, "c", 0, false)
	many := bools(5000, 0)
	wantPlace(t, many, 5000, 4999, true)
	wantNamed(t, many, "c4999", 4999, true)
	wantPlace(t, many, 5001, 0, false)
	wantNamed(t, many, "c5000", 0, false)
}

// roomy is a list with spare room behind it, and all of that memory.
func roomy[T any](list []T, spare T) (l, room []T) {
	room = append(slices.Clone(list), spare, spare, spare)
	return room[:len(list):len(room)], room
}

// P11.5: what is handed in is only read, its spare room neither written to.
func TestWhatIsHandedInIsOnlyRead(t *testing.T) {
	next := scatter()
	for range 500 {
		plain := scatteredSchema(next, 1+next(4))
		if next(2) == 0 {
			plain = spoilt(next, plain)
		}
		var s api.Schema
		var columns []api.Column
		var keys []int
		s.Columns, columns = roomy(plain.Columns, api.Column{Id: 99, Name: "spare"})
		s.Keys, keys = roomy(plain.Keys, 77)
		hadColumns, hadKeys := slices.Clone(columns), slices.Clone(keys)
		Check(s)
		Same(s, s)
		Copy(s)
		Place(s, 3)
		Named(s, "a1")
		Text(s)
		if !slices.Equal(columns, hadColumns) || !slices.Equal(keys, hadKeys) {
			t.Fatalf("what was handed in is another: %v, %v", columns, keys)
		}
	}
}

// spoil writes over all of a schema's memory, its spare room too.
func spoil(s api.Schema) {
	for i := range s.Columns[:cap(s.Columns)] {
		s.Columns[:cap(s.Columns)][i] = api.Column{Id: 123, Name: "spoilt"}
	}
	for i := range s.Keys[:cap(s.Keys)] {
		s.Keys[:cap(s.Keys)][i] = 123
	}
}

// P11.5: what is answered is new memory, each time.
func TestWhatIsAnsweredIsNewMemory(t *testing.T) {
	columns, columnsRoom := roomy(example().Columns, api.Column{Name: "spare"})
	keys, keysRoom := roomy(example().Keys, 77)
	hadColumns, hadKeys := slices.Clone(columnsRoom), slices.Clone(keysRoom)
	text, _ := Text(example())
	for what, ask := range map[string]func() api.Schema{
		"Copy":         func() api.Schema { return Copy(api.Schema{Columns: columns, Keys: keys}) },
		"Copy of none": func() api.Schema { return Copy(api.Schema{Columns: columns[:0], Keys: keys[:0]}) },
		"Parse":        func() api.Schema { s, _, _ := Parse(text); return s },
	} {
		first, second := ask(), ask()
		want := copyOf(second)
		spoil(first)
		if !sameAs(second, want) {
			t.Errorf("%s: two answers share memory", what)
		}
		spoil(second)
		if !slices.Equal(columnsRoom, hadColumns) || !slices.Equal(keysRoom, hadKeys) {
			t.Errorf("%s: shares memory with what was handed in", what)
		}
		if third := ask(); !sameAs(third, want) {
			t.Errorf("%s: is another one now: %s", what, told(third))
		}
	}
}
