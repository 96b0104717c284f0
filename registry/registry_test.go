package registry

import (
	"fmt"
	"math"
	"slices"
	"strings"
	"sync"
	"testing"

	"millstream/api"
	"millstream/schema"
)

// num is a cell of a bool, or a whole number; run one of a string, or bytes.
func num(n int64) api.Cell  { return api.Cell{N: n} }
func run(s string) api.Cell { return api.Cell{S: s} }

// of is a row.
func of(cells ...api.Cell) []api.Cell { return cells }

// chain is schemas.
func chain(l ...api.Schema) []api.Schema { return l }

// read is the schema of a text, with / for a line feed.
func read(text string) api.Schema {
	s, _, e := schema.Parse(strings.ReplaceAll(text, "/", "\n"))
	if e != api.OK {
		panic("the test is wrong: no schema: " + text)
	}
	return s
}

// The chapter's schemas.
func s1() api.Schema { return read("1 id int32* 0/") }
func s2() api.Schema { return read("1 id int64* 0/") }
func s3() api.Schema { return read("1 id int64* 0/2 v bool false/") }
func s4() api.Schema { return read("1 v bool false/") }

// other is one that follows none of these, nor is followed by one.
func other() api.Schema { return read("1 id string* \"\"/") }

// numbered is a version of many, each of which may follow all others that are below it.
func numbered(version int) api.Schema {
	return read(fmt.Sprintf("1 id int32* 0/%d v int64 %d/", version+1, version))
}

// full is a registry with as many subjects, of as many versions, as may be.
func full(subjects, versions int) *Registry {
	r := New()
	for s := range subjects {
		for v := range versions {
			if version, e := r.Add(fmt.Sprintf("s%d", s), numbered(v+1)); version != v+1 || e != api.OK {
				panic("the test is wrong")
			}
		}
	}
	return r
}

// P13.2 to P13.4: the chapter's examples.
func TestExamples(t *testing.T) {
	r := New()
	wantAdd(t, r, "a", s1(), 1, api.OK)
	wantAdd(t, r, "a", s1(), 1, api.OK)
	wantAdd(t, r, "a", s2(), 2, api.OK)
	wantAdd(t, r, "a", s1(), 0, api.ErrIncompatible)
	wantAdd(t, r, "a", s4(), 0, api.ErrArg)

	wantAdd(t, r, "A", s1(), 0, api.ErrSubject)
	wantAdd(t, r, "b", s3(), 1, api.OK)
	wantChain(t, r, "a", s1(), s2())
	wantChain(t, r, "b", s3())
	wantChain(t, r, "c")
	wantSubjects(t, r, "a", "b")

	wantGet(t, r, "a", 1, s1(), api.OK)
	wantGet(t, r, "a", 3, api.Schema{}, api.ErrVersion)
	wantGet(t, r, "c", 1, api.Schema{}, api.ErrSubject)
	wantMove(t, r, "a", 1, 2, of(num(5)), of(num(5)), api.OK)
	wantMove(t, r, "a", 2, 1, of(num(5)), nil, api.ErrVersion)
}

// P13.1: a new registry has no subjects, and two of them are two.
func TestNew(t *testing.T) {
	r, second := New(), New()
	if r == nil || second == nil || r == second {
		t.Fatal("New: no registry of its own")
	}
	wantSubjects(t, r)
	wantChain(t, r, "a")
	wantMove(t, r, "a", 1, 1, of(num(5)), nil, api.ErrSubject)
	wantAdd(t, r, "a", s1(), 1, api.OK)
	wantSubjects(t, second)
	wantChain(t, second, "a")
}

// P13.1: of one that is none all calls answer ErrNil, 0, nothing, whatever they are handed; a zero one stays none.
func TestNone(t *testing.T) {
	for _, r := range []*Registry{nil, {}} {
		for _, subject := range []string{"a", "", "A"} {
			for _, s := range chain(s1(), s4(), api.Schema{}) {
				wantAdd(t, r, subject, s, 0, api.ErrNil)
			}
			for _, version := range []int{0, 1, -1, math.MaxInt} {
				wantGet(t, r, subject, version, api.Schema{}, api.ErrNil)
				wantMove(t, r, subject, version, version, of(num(5)), nil, api.ErrNil)
				wantMove(t, r, subject, version, 1, nil, nil, api.ErrNil)
			}
			if r.Last(subject) != 0 || len(r.Chain(subject)) != 0 {
				t.Errorf("of a registry that is none: Last %d, Chain %s", r.Last(subject), told(r.Chain(subject)...))
			}
		}
		wantSubjects(t, r)
	}
}

// P13.2: a subject that is no name is told ahead of a schema that may not be.
func TestAddToWhatIsNoName(t *testing.T) {
	r := New()
	longest := strings.Repeat("a", 32)
	for _, subject := range []string{"", "A", "1", "_", "1a", "_a", "aA", "a b", "a.", "a\n", "a\x00", "\u00e4", "a\xff", longest + "a", longest + longest} {
		for _, s := range chain(s1(), s4(), api.Schema{}) {
			wantAdd(t, r, subject, s, 0, api.ErrSubject)
		}
		wantChain(t, r, subject)
	}
	wantSubjects(t, r)
	for _, subject := range []string{"z", "a_", "a1", "a_1b", longest} {
		wantAdd(t, r, subject, s1(), 1, api.OK)
	}
	wantSubjects(t, r, "a1", "a_", "a_1b", longest, "z")
}

// P13.2: a schema that may not be, or has no key, is ErrArg, of a subject that is there, and of one that is not, and ahead of limits.
func TestAddOfWhatMayNotBe(t *testing.T) {
	twice, noName, badKey := s3(), s3(), s3()
	twice.Columns[1].Id, noName.Columns[1].Name, badKey.Keys = 1, "", []int{2}
	nullKey := read("1 id int32? 0/")
	nullKey.Keys = []int{0}
	noKeys := s1()
	noKeys.Keys = []int{}
	r, most, last := New(), full(16, 1), full(1, 64)
	wantAdd(t, r, "a", s1(), 1, api.OK)
	for _, s := range chain(api.Schema{}, s4(), twice, noName, badKey, nullKey, noKeys, api.Schema{Keys: []int{0}}) {
		wantAdd(t, r, "a", s, 0, api.ErrArg)
		wantAdd(t, r, "b", s, 0, api.ErrArg)
		wantAdd(t, most, "b", s, 0, api.ErrArg)
		wantAdd(t, last, "s0", s, 0, api.ErrArg)
	}
	wantSubjects(t, r, "a")
	wantChain(t, r, "a", s1())
}

// P13.2: what is the same as the last version is that one, at the limits, too; what is the same as one ahead of it is not.
func TestAddOfTheSame(t *testing.T) {
	r := New()
	wantAdd(t, r, "a", s2(), 1, api.OK)
	wantAdd(t, r, "a", s3(), 2, api.OK)
	wantAdd(t, r, "a", s2(), 3, api.OK) // a column that goes makes a version of its own, though that was there
	wantAdd(t, r, "a", s2(), 3, api.OK)
	wantAdd(t, r, "a", s3(), 0, api.ErrIncompatible)
	wantAdd(t, r, "a", s2(), 3, api.OK)
	wantChain(t, r, "a", s2(), s3(), s2())

	most := full(16, 64)
	for s := range 16 {
		subject := fmt.Sprintf("s%d", s)
		wantAdd(t, most, subject, numbered(64), 64, api.OK)
		wantAdd(t, most, subject, numbered(65), 0, api.ErrLimit)
		wantAdd(t, most, subject, numbered(63), 0, api.ErrLimit)
		wantAdd(t, most, subject, numbered(64), 64, api.OK)
	}
	wantAdd(t, most, "s16", numbered(64), 0, api.ErrLimit)
}

// P13.2: a subject has at most 64 versions; that is told ahead of what may not follow.
func TestAddOfTooManyVersions(t *testing.T) {
	r := full(1, 63)
	wantAdd(t, r, "s0", other(), 0, api.ErrIncompatible)
	wantAdd(t, r, "s0", numbered(64), 64, api.OK)
	for _, s := range chain(numbered(65), numbered(1), numbered(63), s1(), s2(), other()) {
		wantAdd(t, r, "s0", s, 0, api.ErrLimit)
	}
	for version := 1; version <= 64; version++ {
		wantGet(t, r, "s0", version, numbered(version), api.OK)
	}
	wantGet(t, r, "s0", 65, api.Schema{}, api.ErrVersion)
	// Another subject's versions do not count.
	wantAdd(t, r, "s1", other(), 1, api.OK)
}

// P13.2: a registry has at most 16 subjects; those that are there go on.
func TestAddOfTooManySubjects(t *testing.T) {
	r := full(15, 2)
	wantAdd(t, r, "z", s2(), 1, api.OK)
	for _, subject := range []string{"a", "s15", "zz"} {
		wantAdd(t, r, subject, s1(), 0, api.ErrLimit)
		wantAdd(t, r, subject, s2(), 0, api.ErrLimit)
		wantChain(t, r, subject)
	}
	wantAdd(t, r, "z", s3(), 2, api.OK)
	wantAdd(t, r, "s0", numbered(3), 3, api.OK)
	wantAdd(t, r, "s14", other(), 0, api.ErrIncompatible)
	if got := r.Subjects(); len(got) != 16 || !slices.IsSorted(got) {
		t.Errorf("Subjects: %q", got)
	}
}

// P13.2: it is a chain of all versions that is asked for, not a step from the last one.
func TestAddOfAnIdThatWent(t *testing.T) {
	r := New()
	wantAdd(t, r, "a", read("1 id int32* 0/5 v bool false/"), 1, api.OK)
	wantAdd(t, r, "a", s1(), 2, api.OK)
	wantAdd(t, r, "a", read("1 id int32* 0/5 v bool false/"), 0, api.ErrIncompatible)
	wantAdd(t, r, "a", read("1 id int32* 0/4 v bool false/"), 0, api.ErrIncompatible)
	wantAdd(t, r, "a", read("1 id int32* 1/"), 0, api.ErrIncompatible)
	wantAdd(t, r, "a", read("2 id int32* 0/"), 0, api.ErrIncompatible)
	wantAdd(t, r, "a", read("1 id int32* 0/6 v bool false/"), 3, api.OK)
	wantAdd(t, r, "b", read("1 id int32* 0/4 v bool false/"), 1, api.OK)
}

// P13.3: versions are numbered from 1 on, and there is nothing of what is no subject, be it a name or not.
func TestGet(t *testing.T) {
	r := full(2, 3)
	for _, version := range []int{0, -1, 4, 5, 64, 65, math.MaxInt, math.MinInt} {
		wantGet(t, r, "s0", version, api.Schema{}, api.ErrVersion)
		for _, subject := range []string{"s", "s2", "s00", "", "S0", "s0 "} {
			wantGet(t, r, subject, version, api.Schema{}, api.ErrSubject)
		}
	}
	wantChain(t, r, "s0", numbered(1), numbered(2), numbered(3))
	wantChain(t, r, "s1", numbered(1), numbered(2), numbered(3))
	for _, subject := range []string{"s", "s2", "s00", "", "S0", "s0 "} {
		wantChain(t, r, subject)
	}
}

// P13.3: names rise byte by byte, in whatever order they came; what ends first is less.
func TestSubjectsRise(t *testing.T) {
	names := []string{"a", "a0", "a00", "a1", "a_", "aa", "ab", "b", "b0", "ba", "z", "z_", "za", "zz", "zz9", "zzz"}
	next := scatter()
	for range 50 {
		r := New()
		mixed := slices.Clone(names)
		for i := range mixed {
			j := i + next(len(mixed)-i)
			mixed[i], mixed[j] = mixed[j], mixed[i]
		}
		for _, name := range mixed {
			wantAdd(t, r, name, s1(), 1, api.OK)
		}
		wantSubjects(t, r, names...)
	}
}

// P13.4: what is no subject is told ahead of a version that is not there, and that ahead of a row that is none.
func TestMoveOfWhatMayNotBe(t *testing.T) {
	r := New()
	wantAdd(t, r, "a", read("1 id int32* 0/2 s string \"d\"/"), 1, api.OK)
	wantAdd(t, r, "a", s2(), 2, api.OK)
	good := of(num(5), run("x"))
	for _, c := range []struct {
		from, to int
		row      []api.Cell
		e        api.Errno
	}{
		{0, 1, good, api.ErrVersion}, {0, 0, nil, api.ErrVersion}, {1, 3, good, api.ErrVersion}, {2, 3, nil, api.ErrVersion}, {2, 1, of(num(5)), api.ErrVersion}, {3, 3, good, api.ErrVersion},
		{-1, 2, good, api.ErrVersion}, {1, -1, good, api.ErrVersion}, {math.MinInt, math.MaxInt, nil, api.ErrVersion}, {1, math.MaxInt, good, api.ErrVersion},
		{1, 2, nil, api.ErrRow}, {1, 1, of(num(5)), api.ErrRow}, {1, 2, of(num(5)), api.ErrRow}, {2, 2, good, api.ErrRow},
		{1, 2, of(num(1<<31), run("x")), api.ErrCell}, {1, 2, of(num(5), num(5)), api.ErrCell}, {1, 1, of(num(5), run("\xff")), api.ErrCell}, {2, 2, of(run("x")), api.ErrCell},
	} {
		wantMove(t, r, "a", c.from, c.to, c.row, nil, c.e)
		for _, subject := range []string{"b", "", "A", "aa"} {
			wantMove(t, r, subject, c.from, c.to, c.row, nil, api.ErrSubject)
		}
	}
}

// P13.4: a row goes from any version to any later one, of the subject that is asked for.
func TestMove(t *testing.T) {
	r := New()
	wantAdd(t, r, "a", read("1 id int32* 0/2 s string \"d\"/"), 1, api.OK)
	wantAdd(t, r, "a", read("1 id int32* 0/2 s string \"d\"/3 n int64? null/"), 2, api.OK)
	wantAdd(t, r, "a", read("1 id int64* 0/3 n int64? null/"), 3, api.OK)
	wantAdd(t, r, "b", read("1 id int32* 0/2 s string \"d\"/"), 1, api.OK)
	wantAdd(t, r, "b", read("1 id int32* 0/2 s string \"d\"/3 x bytes x00/"), 2, api.OK)
	nothing := api.Cell{Null: true}
	row := of(num(5), run("x"))
	wantMove(t, r, "a", 1, 1, row, row, api.OK)
	wantMove(t, r, "a", 1, 2, row, of(num(5), run("x"), nothing), api.OK)
	wantMove(t, r, "a", 1, 3, row, of(num(5), nothing), api.OK)
	wantMove(t, r, "a", 2, 3, of(num(5), run("x"), num(7)), of(num(5), num(7)), api.OK)
	wantMove(t, r, "a", 3, 3, of(num(1<<40), nothing), of(num(1<<40), nothing), api.OK)
	wantMove(t, r, "b", 1, 2, row, of(num(5), run("x"), run("\x00")), api.OK)
	wantMove(t, r, "b", 1, 3, row, nil, api.ErrVersion)
	wantMove(t, full(1, 64), "s0", 1, 64, of(num(5), num(6)), of(num(5), num(64)), api.OK)
}

// P13.2 to P13.5: a registry is that of the words, of scattered calls, one behind the other, right and wrong ones; and what answers an error has changed nothing.
func TestARegistryIsThatOfTheWords(t *testing.T) {
	next := scatter()
	names := []string{"a", "a", "b", "b", "c_1", "zz", "A", ""}
	count := map[api.Errno]int{}
	for range 300 {
		r, w := New(), &wordRegistry{}
		for range 60 {
			subject := one(next, names)
			s := later(next, w.chain(subject))
			version, e := w.add(subject, s)
			wantAdd(t, r, subject, s, version, e)
			wantAll(t, r, w)
			count[e]++

			subject = one(next, names)
			from := next(w.last(subject) + 2)
			to := from + next(w.last(subject)+2) - 1
			of, _ := w.get(subject, from)
			if len(of.Columns) == 0 {
				of = s1()
			}
			row := rowFor(next, of)
			moved, e := w.move(subject, from, to, row)
			wantMove(t, r, subject, from, to, row, moved, e)
			count[e]++
		}
	}
	for _, e := range []api.Errno{api.OK, api.ErrArg, api.ErrIncompatible, api.ErrSubject, api.ErrVersion, api.ErrRow, api.ErrCell} {
		if count[e] < 200 {
			t.Errorf("the test is wrong: %v", count)
		}
	}
}

// P13.5: a call that answers an error changes nothing, whichever error it is.
func TestAnErrorChangesNothing(t *testing.T) {
	r := full(16, 64)
	for range 3 {
		wantAdd(t, r, "S", s1(), 0, api.ErrSubject)
		wantAdd(t, r, "s0", s4(), 0, api.ErrArg)
		wantAdd(t, r, "s0", s1(), 0, api.ErrLimit)
		wantAdd(t, r, "s16", s1(), 0, api.ErrLimit)
		wantMove(t, r, "s0", 64, 1, nil, nil, api.ErrVersion)
		wantGet(t, r, "s0", 65, api.Schema{}, api.ErrVersion)
		wantGet(t, r, "s16", 1, api.Schema{}, api.ErrSubject)
	}
	if got := r.Subjects(); len(got) != 16 {
		t.Errorf("Subjects: %q", got)
	}
	for s := range 16 {
		if got := r.Last(fmt.Sprintf("s%d", s)); got != 64 {
			t.Errorf("Last: %d", got)
		}
	}
}

// roomy is a list with spare room behind it, and all of that.
func roomy[T any](list []T, spare T) (l, room []T) {
	room = append(slices.Clone(list), spare, spare, spare)
	return room[:len(list):len(room)], room
}

// P13.5: what is handed in is only read, its spare room neither written to, and not kept.
func TestWhatIsHandedInIsOnlyRead(t *testing.T) {
	r := New()
	for version, s := range chain(s1(), s2(), s3(), s1(), s4()) {
		columns, columnsRoom := roomy(s.Columns, api.Column{Id: 99, Name: "spare"})
		keys, keysRoom := roomy(s.Keys, 77)
		row, rowRoom := roomy(of(num(5)), run("spare"))
		hadColumns, hadKeys, hadRow := slices.Clone(columnsRoom), slices.Clone(keysRoom), slices.Clone(rowRoom)
		r.Add("a", api.Schema{Columns: columns, Keys: keys})
		r.Add("a", api.Schema{Columns: columns, Keys: keys})
		r.Move("a", 1, 1+version, row)
		if !slices.Equal(columnsRoom, hadColumns) || !slices.Equal(keysRoom, hadKeys) || !slices.Equal(rowRoom, hadRow) {
			t.Errorf("what was handed in is another: %v, %v, %v", columnsRoom, keysRoom, rowRoom)
		}
		for i := range columnsRoom {
			columnsRoom[i] = api.Column{Id: 123, Name: "spoilt"}
		}
		for i := range keysRoom {
			keysRoom[i] = 123
		}
	}
	wantChain(t, r, "a", s1(), s2(), s3())
	wantAdd(t, r, "a", s3(), 3, api.OK)
}

// spoil writes over all of a list's memory, its spare room too.
func spoil[T any](l []T, by T) {
	l = l[:cap(l)]
	for i := range l {
		l[i] = by
	}
}

// spoilSchemas writes over all of schemas' memory.
func spoilSchemas(l ...api.Schema) {
	for _, s := range l {
		spoil(s.Columns, api.Column{Id: 123, Name: "spoilt"})
		spoil(s.Keys, 123)
	}
	spoil(l, api.Schema{})
}

// P13.5: what is answered is new memory, each time.
func TestWhatIsAnsweredIsNewMemory(t *testing.T) {
	r := New()
	wantAdd(t, r, "a", s1(), 1, api.OK)
	wantAdd(t, r, "a", s3(), 2, api.OK)
	wantAdd(t, r, "b", s2(), 1, api.OK)
	for range 2 {
		second, _ := r.Get("a", 2)
		secondChain, secondSubjects := r.Chain("a"), r.Subjects()
		s, _ := r.Get("a", 2)
		spoilSchemas(s)
		spoilSchemas(r.Chain("a")...)
		spoil(r.Subjects(), "spoilt")
		if !schema.Same(second, s3()) || !isSameChain(secondChain, chain(s1(), s3())) || !slices.Equal(secondSubjects, []string{"a", "b"}) {
			t.Errorf("two answers share memory: %s, %s, %q", told(second), told(secondChain...), secondSubjects)
		}
		wantChain(t, r, "a", s1(), s3())
		wantSubjects(t, r, "a", "b")
	}
	row := of(num(5))
	moved, _ := r.Move("a", 1, 1, row)
	moved2, _ := r.Move("a", 1, 2, row)
	spoil(moved, num(123))
	spoil(moved2, num(123))
	wantMove(t, r, "a", 1, 2, row, of(num(5), num(0)), api.OK)
	if row[0] != num(5) {
		t.Errorf("what is moved shares memory with what was handed in: %v", row)
	}
	// Of one chain's schemas each has its own memory.
	l := r.Chain("a")
	spoilSchemas(l[0])
	if !schema.Same(l[1], s3()) {
		t.Errorf("two of one chain share memory: %s", told(l...))
	}
}

// P13.2, P13.5: an Add that comes between two steps of another one is not lost, and that one sees it.
func TestAnAddThatComesBetween(t *testing.T) {
	for _, c := range []struct {
		subject string
		between api.Schema
		version int
		e       api.Errno
		want    []api.Schema
	}{
		{"b", s1(), 1, api.OK, chain(s1())},
		{"a", s1(), 2, api.OK, chain(s1(), s2())},
		{"a", s2(), 1, api.OK, chain(s2())},
		{"a", s3(), 2, api.OK, chain(s3(), s2())},
		{"a", other(), 0, api.ErrIncompatible, chain(other())},
	} {
		r := New()
		goes := 0
		version, e := r.exchange(func(had *snapshot) (*snapshot, int, api.Errno) {
			next, version, e := adding("a", s2())(had)
			if goes++; goes == 1 {
				wantAdd(t, r, c.subject, c.between, 1, api.OK)
			}
			return next, version, e
		})
		if version != c.version || e != c.e || goes != 2 {
			t.Errorf("Add behind %s: %d, %d, in %d goes; not %d, %d, in 2", told(c.between), version, e, goes, c.version, c.e)
		}
		if c.subject == "b" {
			wantChain(t, r, "a", s2())
		}
		wantChain(t, r, c.subject, c.want...)
	}
}

// P13.6: what is made of an older snapshot writes to nothing that a later one has.
func TestWhatIsMadeOfAnOlderSnapshot(t *testing.T) {
	for many := range 20 {
		r := full(1, 1+many)
		older := r.has.Load()
		had := r.Chain("s0")
		wantAdd(t, r, "s0", s2(), 2+many, api.OK)
		wantAdd(t, r, "a", s1(), 1, api.OK)
		for _, subject := range []string{"s0", "a", "b"} {
			if next, _, e := adding(subject, numbered(64))(older); e != api.OK || next == older {
				t.Errorf("the test is wrong: %d", e)
			}
		}
		wantChain(t, r, "s0", append(had, s2())...)
		wantChain(t, r, "a", s1())
		wantSubjects(t, r, "a", "s0")
		r.has.Store(older)
		wantChain(t, r, "s0", had[:1+many]...)
		wantSubjects(t, r, "s0")
	}
}

// P13.2, P13.5: of Adds at a time none is lost; what is read meanwhile is one snapshot.
func TestAddsAtATime(t *testing.T) {
	r := New()
	var all sync.WaitGroup
	for s := range 16 {
		all.Go(func() {
			subject := fmt.Sprintf("s%d", s)
			for v := 1; v <= 64; v++ {
				if version, e := r.Add(subject, numbered(v)); version != v || e != api.OK {
					t.Errorf("Add to %q: %d, %d; not %d", subject, version, e, v)
				}
				if l := r.Chain(subject); len(l) != v || !schema.Same(l[v-1], numbered(v)) {
					t.Errorf("Chain of %q: %d; not %d", subject, len(l), v)
				}
			}
		})
	}
	all.Wait()
	for s := range 16 {
		l := r.Chain(fmt.Sprintf("s%d", s))
		for i := range l {
			if !schema.Same(l[i], numbered(i+1)) {
				t.Errorf("version %d: %s", i+1, told(l[i]))
			}
		}
		if len(l) != 64 {
			t.Errorf("Chain: %d", len(l))
		}
	}
}
