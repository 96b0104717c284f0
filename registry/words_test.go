package registry

import (
	"fmt"
	"math/rand/v2"
	"slices"
	"sort"
	"strings"
	"testing"

	"millstream/api"
	"millstream/evolve"
	"millstream/schema"
)

// wordSubject is a subject of the words: a name, and versions.
type wordSubject struct {
	name     string
	versions []api.Schema
}

// wordRegistry is one of the words: subjects, in the order in which they came.
type wordRegistry struct {
	subjects []*wordSubject
}

// the is the subject of a name; nil, if there is none.
func (w *wordRegistry) the(name string) *wordSubject {
	for _, s := range w.subjects {
		if s.name == name {
			return s
		}
	}
	return nil
}

// wordIsName tells whether a text is a name.
func wordIsName(name string) bool {
	for i, c := range []byte(name) {
		letter := strings.IndexByte("abcdefghijklmnopqrstuvwxyz", c) >= 0
		if !letter && (i == 0 || strings.IndexByte("0123456789_", c) < 0) {
			return false
		}
	}
	return 1 <= len(name) && len(name) <= 32
}

// add is P13.2.
func (w *wordRegistry) add(name string, s api.Schema) (int, api.Errno) {
	if !wordIsName(name) {
		return 0, api.ErrSubject
	}
	if schema.Check(s) != api.OK || len(s.Keys) == 0 {
		return 0, api.ErrArg
	}
	of := w.the(name)
	if of != nil && schema.Same(of.versions[len(of.versions)-1], s) {
		return len(of.versions), api.OK
	}
	if of == nil && len(w.subjects) == 16 || of != nil && len(of.versions) == 64 {
		return 0, api.ErrLimit
	}
	if of == nil {
		w.subjects = append(w.subjects, &wordSubject{name, chain(schema.Copy(s))})
		return 1, api.OK
	}
	if evolve.Chain(slices.Concat(of.versions, chain(s))) != api.OK {
		return 0, api.ErrIncompatible
	}
	of.versions = append(of.versions, schema.Copy(s))
	return len(of.versions), api.OK
}

// get is P13.3's first sentence, the others are last, chain and names.
func (w *wordRegistry) get(name string, version int) (api.Schema, api.Errno) {
	of := w.the(name)
	if of == nil {
		return api.Schema{}, api.ErrSubject
	}
	for i, s := range of.versions {
		if i+1 == version {
			return s, api.OK
		}
	}
	return api.Schema{}, api.ErrVersion
}

func (w *wordRegistry) last(name string) int { return len(w.chain(name)) }

func (w *wordRegistry) chain(name string) []api.Schema {
	if of := w.the(name); of != nil {
		return of.versions
	}
	return nil
}

func (w *wordRegistry) names() []string {
	var names []string
	for _, s := range w.subjects {
		names = append(names, s.name)
	}
	sort.Strings(names)
	return names
}

// move is P13.4.
func (w *wordRegistry) move(name string, from, to int, r []api.Cell) ([]api.Cell, api.Errno) {
	of := w.the(name)
	if of == nil {
		return nil, api.ErrSubject
	}
	return evolve.Carry(of.versions, from, to, r)
}

// scatter answers numbers below a limit that lie scattered, the same ones in each run.
func scatter() func(below int) int {
	return rand.New(rand.NewPCG(13, 13)).IntN
}

// one is an element of a list.
func one[T any](next func(below int) int, list []T) T {
	return list[next(len(list))]
}

// linesOf are columns' lines of an id.
func linesOf(id int) []string {
	return []string{
		fmt.Sprintf("%d c%d int32 7/", id, id), fmt.Sprintf("%d c%d int64 -7/", id, id), fmt.Sprintf("%d c%d bool true/", id, id),
		fmt.Sprintf("%d c%d string? null/", id, id), fmt.Sprintf("%d c%d bytes x00ff/", id, id), fmt.Sprintf("%d c%d int32* 0/", id, id),
	}
}

// first is a schema to begin with.
func first(next func(below int) int) api.Schema {
	text := one(next, []string{"1 id int32* 0/", "1 id int64* 0/", "2 id string* \"\"/", "1 a bool false/2 id bytes* x/3 at int32* 0/"})
	if next(2) == 0 {
		text += one(next, linesOf(4))
	}
	return read(text)
}

// highestId is the highest id of schemas.
func highestId(l []api.Schema) int {
	highest := 0
	for _, s := range l {
		for _, col := range s.Columns {
			highest = max(highest, col.Id)
		}
	}
	return highest
}

// without is a schema without its last column.
func without(s api.Schema) api.Schema {
	place := len(s.Columns) - 1
	return api.Schema{Columns: slices.Clone(s.Columns[:place]), Keys: slices.DeleteFunc(slices.Clone(s.Keys), func(key int) bool { return key == place })}
}

// with is a schema with a column more.
func with(s api.Schema, line string) api.Schema {
	s = schema.Copy(s)
	more := read(line)
	if len(more.Keys) > 0 {
		s.Keys = append(s.Keys, len(s.Columns))
	}
	s.Columns = append(s.Columns, more.Columns[0])
	return s
}

// wider is a schema whose columns of int32 are of int64.
func wider(s api.Schema) api.Schema {
	s = schema.Copy(s)
	for i := range s.Columns {
		if s.Columns[i].Type.Kind == api.TInt32 {
			s.Columns[i].Type.Kind = api.TInt64
		}
	}
	return s
}

// later is a schema to add behind a chain: some may follow it, some not, some may not be.
func later(next func(below int) int, l []api.Schema) api.Schema {
	if len(l) == 0 {
		return first(next)
	}
	last := l[len(l)-1]
	switch next(8) {
	case 0:
		return last
	case 1:
		return wider(last)
	case 2:
		return without(last)
	case 3:
		return one(next, l)
	case 4:
		return api.Schema{Columns: last.Columns}
	case 5:
		return with(last, one(next, linesOf(1+next(8))))
	}
	return with(last, one(next, linesOf(1+highestId(l))))
}

// cellsOf are cells of a column's type.
func cellsOf(col api.Column) []api.Cell {
	l := []api.Cell{col.Default}
	switch col.Type.Kind {
	case api.TString, api.TBytes:
		l = append(l, run("x"))
	default:
		l = append(l, num(0), num(1))
	}
	return l
}

// rowFor is one of the schema, at times with a cell too many, or of no type.
func rowFor(next func(below int) int, s api.Schema) []api.Cell {
	var r []api.Cell
	for _, col := range s.Columns {
		r = append(r, one(next, cellsOf(col)))
	}
	switch next(8) {
	case 0:
		return append(r, num(0))
	case 1:
		r[next(len(r))] = api.Cell{N: 1, S: "x"}
	}
	return r
}

// told is schemas for telling them.
func told(l ...api.Schema) string {
	var texts []string
	for _, s := range l {
		text, e := schema.Text(s)
		if e != api.OK {
			text = fmt.Sprintf("%v", s)
		}
		texts = append(texts, strings.ReplaceAll(text, "\n", "/"))
	}
	return "{" + strings.Join(texts, "; ") + "}"
}

func isSameChain(a, b []api.Schema) bool {
	return slices.EqualFunc(a, b, schema.Same)
}

func wantAdd(t *testing.T, r *Registry, subject string, s api.Schema, version int, e api.Errno) {
	t.Helper()
	if got, gotE := r.Add(subject, s); got != version || gotE != e {
		t.Errorf("Add to %q, of %s: %d, %d; not %d, %d", subject, told(s), got, gotE, version, e)
	}
}

func wantGet(t *testing.T, r *Registry, subject string, version int, s api.Schema, e api.Errno) {
	t.Helper()
	if got, gotE := r.Get(subject, version); !schema.Same(got, s) || gotE != e {
		t.Errorf("Get of %q, of version %d: %s, %d; not %s, %d", subject, version, told(got), gotE, told(s), e)
	}
}

func wantMove(t *testing.T, r *Registry, subject string, from, to int, row, want []api.Cell, e api.Errno) {
	t.Helper()
	if got, gotE := r.Move(subject, from, to, row); !slices.Equal(got, want) || gotE != e {
		t.Errorf("Move of %q, from %d to %d, of %v: %v, %d; not %v, %d", subject, from, to, row, got, gotE, want, e)
	}
}

// wantChain holds Chain, Last and Get of a subject against the versions that it has to have; without any it is not to be there.
func wantChain(t *testing.T, r *Registry, subject string, l ...api.Schema) {
	t.Helper()
	if got := r.Chain(subject); !isSameChain(got, l) {
		t.Errorf("Chain of %q: %s; not %s", subject, told(got...), told(l...))
	}
	if got := r.Last(subject); got != len(l) {
		t.Errorf("Last of %q: %d; not %d", subject, got, len(l))
	}
	for i, s := range l {
		wantGet(t, r, subject, i+1, s, api.OK)
	}
	beyond := api.ErrVersion
	if len(l) == 0 {
		beyond = api.ErrSubject
	}
	wantGet(t, r, subject, 0, api.Schema{}, beyond)
	wantGet(t, r, subject, len(l)+1, api.Schema{}, beyond)
}

func wantSubjects(t *testing.T, r *Registry, names ...string) {
	t.Helper()
	if got := r.Subjects(); !slices.Equal(got, names) {
		t.Errorf("Subjects: %q; not %q", got, names)
	}
}

// wantAll holds all that a registry has against one of the words.
func wantAll(t *testing.T, r *Registry, w *wordRegistry) {
	t.Helper()
	wantSubjects(t, r, w.names()...)
	for _, name := range w.names() {
		wantChain(t, r, name, w.chain(name)...)
	}
}
