package evolve

import (
	"fmt"
	"maps"
	"math"
	"math/rand/v2"
	"slices"
	"strings"
	"testing"

	"millstream/api"
	"millstream/cell"
	"millstream/row"
	"millstream/schema"
)

// wordColumns are a schema's columns by their ids.
func wordColumns(s api.Schema) map[int]api.Column {
	cols := map[int]api.Column{}
	for _, col := range s.Columns {
		cols[col.Id] = col
	}
	return cols
}

// wordKey are the ids of the columns that are the key.
func wordKey(s api.Schema) map[int]bool {
	key := map[int]bool{}
	for _, place := range s.Keys {
		key[s.Columns[place].Id] = true
	}
	return key
}

// wordStays is the first of the words' three points.
func wordStays(a, b api.Column) bool {
	if a.Name != b.Name || a.Default != b.Default || a.Type.Null != b.Type.Null {
		return false
	}
	switch a.Type.Kind {
	case api.TInt32:
		return b.Type.Kind == api.TInt32 || b.Type.Kind == api.TInt64
	default:
		return a.Type.Kind == b.Type.Kind
	}
}

// wordMay tells whether b may follow a.
func wordMay(a, b api.Schema) bool {
	of := wordColumns(a)
	for id, col := range wordColumns(b) {
		was, both := of[id]
		if both && !wordStays(was, col) {
			return false
		}
		for ahead := range of {
			if !both && id <= ahead {
				return false
			}
		}
	}
	return maps.Equal(wordKey(a), wordKey(b))
}

// wordStep is P12.1.
func wordStep(a, b api.Schema) api.Errno {
	switch {
	case schema.Check(a) != api.OK || schema.Check(b) != api.OK:
		return api.ErrArg
	case !wordMay(a, b):
		return api.ErrIncompatible
	}
	return api.OK
}

// wordChain is P12.2.
func wordChain(l []api.Schema) api.Errno {
	if len(l) > 64 {
		return api.ErrLimit
	}
	for _, s := range l {
		if schema.Check(s) != api.OK {
			return api.ErrArg
		}
	}
	for i := 1; i < len(l); i++ {
		if !wordMay(l[i-1], l[i]) {
			return api.ErrIncompatible
		}
		for id := range wordColumns(l[i]) {
			if _, was := wordColumns(l[i-1])[id]; was {
				continue
			}
			for _, ahead := range l[:i] {
				for other := range wordColumns(ahead) {
					if id <= other {
						return api.ErrIncompatible
					}
				}
			}
		}
	}
	return api.OK
}

// wordMoved is a row of a moved to b.
func wordMoved(a, b api.Schema, r []api.Cell) []api.Cell {
	had := map[int]api.Cell{}
	for i, col := range a.Columns {
		had[col.Id] = r[i]
	}
	var m []api.Cell
	for _, col := range b.Columns {
		c, is := had[col.Id]
		if !is {
			c = col.Default
		}
		m = append(m, c)
	}
	return m
}

// wordMove is P12.3.
func wordMove(a, b api.Schema, r []api.Cell) ([]api.Cell, api.Errno) {
	if e := wordStep(a, b); e != api.OK {
		return nil, e
	}
	if e := row.Check(a.Columns, r); e != api.OK {
		return nil, e
	}
	return wordMoved(a, b, r), api.OK
}

// wordCarry is P12.4.
func wordCarry(l []api.Schema, from, to int, r []api.Cell) ([]api.Cell, api.Errno) {
	if e := wordChain(l); e != api.OK {
		return nil, e
	}
	if from < 1 || from > to || to > len(l) {
		return nil, api.ErrVersion
	}
	if e := row.Check(l[from-1].Columns, r); e != api.OK {
		return nil, e
	}
	for version := from; version < to; version++ {
		r = wordMoved(l[version-1], l[version], r)
	}
	return r, api.OK
}

// scatter answers numbers below a limit that lie scattered, the same ones in each run.
func scatter() func(below int) int {
	return rand.New(rand.NewPCG(12, 12)).IntN
}

// one is an element of a list.
func one[T any](next func(below int) int, list []T) T {
	return list[next(len(list))]
}

// typesThatMay are all types that may be.
func typesThatMay() []api.Type {
	var l []api.Type
	for _, kind := range []int{api.TBool, api.TInt32, api.TInt64, api.TString, api.TBytes} {
		l = append(l, api.Type{Kind: kind}, api.Type{Kind: kind, Null: true})
	}
	return l
}

// anyCells are cells of some types, and of none.
func anyCells() []api.Cell {
	return []api.Cell{
		nothing, num(0), num(1), num(2), num(-1), num(math.MinInt32), num(math.MaxInt32), num(math.MaxInt32 + 1), num(math.MinInt64), num(math.MaxInt64),
		run(""), run("a"), run("d"), run("\x00"), run("\xff"), run("\u00e4"), run(strings.Repeat("a", 1024)), run(strings.Repeat("a", 1025)),
		{Null: true, N: 1}, {Null: true, S: "a"}, {N: 1, S: "a"},
	}
}

// cellsOf are those of anyCells that are of a type.
func cellsOf(of api.Type) []api.Cell {
	return slices.DeleteFunc(anyCells(), func(c api.Cell) bool { return cell.Check(of, c) != api.OK })
}

// scatteredColumn is one of an id, of a name that hangs on that.
func scatteredColumn(next func(below int) int, id int) api.Column {
	of := one(next, typesThatMay())
	return api.Column{Id: id, Name: fmt.Sprintf("c%d", id), Type: of, Default: one(next, cellsOf(of))}
}

// scatteredSchema is one that may be, of so many columns.
func scatteredSchema(next func(below int) int, many int) api.Schema {
	var s api.Schema
	id := 0
	for place := range many {
		id += 1 + next(3)
		s.Columns = append(s.Columns, scatteredColumn(next, id))
		if !s.Columns[place].Type.Null && len(s.Keys) < 8 && next(3) == 0 {
			s.Keys = append(s.Keys, place)
		}
	}
	return s
}

// highestId is the highest id of schemas; 0, if there is none.
func highestId(l ...api.Schema) int {
	highest := 0
	for _, s := range l {
		for _, col := range s.Columns {
			highest = max(highest, col.Id)
		}
	}
	return highest
}

// without is a schema without a column.
func without(s api.Schema, place int) api.Schema {
	left := api.Schema{Columns: slices.Delete(slices.Clone(s.Columns), place, place+1)}
	for _, key := range s.Keys {
		switch {
		case key < place:
			left.Keys = append(left.Keys, key)
		case key > place:
			left.Keys = append(left.Keys, key-1)
		}
	}
	return left
}

// later is a schema that may follow one, in a chain whose ids are at most highest: some columns go, come, or become wider.
func later(next func(below int) int, s api.Schema, highest int) api.Schema {
	s = schema.Copy(s)
	for place := len(s.Columns) - 1; place >= 0; place-- {
		col := &s.Columns[place]
		switch {
		case next(4) == 0 && len(s.Columns) > 1 && !slices.Contains(s.Keys, place):
			s = without(s, place)
		case next(3) == 0 && col.Type.Kind == api.TInt32:
			col.Type.Kind = api.TInt64
		}
	}
	for next(2) == 0 && len(s.Columns) < 32 {
		highest += 1 + next(2)
		s.Columns = append(s.Columns, scatteredColumn(next, highest))
	}
	return s
}

// scatteredChain is one of so many versions.
func scatteredChain(next func(below int) int, many int) []api.Schema {
	var l []api.Schema
	for version := range many {
		if version == 0 {
			l = append(l, scatteredSchema(next, 1+next(6)))
			continue
		}
		l = append(l, later(next, l[version-1], highestId(l...)))
	}
	return l
}

// spoilt is a schema with one thing another: often it may not follow what it did, at times it may not be.
func spoilt(next func(below int) int, s api.Schema) api.Schema {
	s = schema.Copy(s)
	place := next(len(s.Columns))
	col := &s.Columns[place]
	switch next(9) {
	case 0:
		col.Id = 1 + next(highestId(s)+2)
	case 1:
		col.Name = one(next, s.Columns).Name + one(next, []string{"", "_"})
	case 2:
		col.Type = one(next, typesThatMay())
		col.Default = one(next, cellsOf(col.Type))
	case 3:
		col.Default = one(next, cellsOf(col.Type))
	case 4:
		col.Type.Null = !col.Type.Null
	case 5:
		col.Type.Kind = 1 + next(6)
	case 6:
		s.Keys = append(s.Keys, place)
		slices.Sort(s.Keys)
	case 7:
		if len(s.Keys) > 0 {
			s.Keys = slices.Delete(s.Keys, 0, 1)
		}
	case 8:
		s = without(s, place)
	}
	return s
}

// scatteredRow is one that fits columns of types that may be.
func scatteredRow(next func(below int) int, s api.Schema) []api.Cell {
	var r []api.Cell
	for _, col := range s.Columns {
		r = append(r, one(next, cellsOf(col.Type)))
	}
	return r
}

// spoiltRow is one with a cell another, or missing, or too many.
func spoiltRow(next func(below int) int, r []api.Cell) []api.Cell {
	r = slices.Clone(r)
	switch next(4) {
	case 0:
		return r[:max(0, len(r)-1)]
	case 1:
		return append(r, num(0))
	}
	if len(r) > 0 {
		r[next(len(r))] = one(next, anyCells())
	}
	return r
}

// short is a text for telling it, be it ever so long.
func short(s string) string {
	if len(s) > 400 {
		return fmt.Sprintf("%.200s .. %s (%d bytes)", s, s[len(s)-200:], len(s))
	}
	return s
}

// told is schemas for telling them.
func told(l ...api.Schema) string {
	var texts []string
	for _, s := range l {
		text, e := schema.Text(s)
		if e != api.OK {
			text = fmt.Sprintf("%v", s)
		}
		texts = append(texts, short(strings.ReplaceAll(text, "\n", "/")))
	}
	return "{" + short(strings.Join(texts, "; ")) + "}"
}

// toldRow is a row for telling it.
func toldRow(r []api.Cell) string {
	var cells []string
	for _, c := range r {
		cells = append(cells, fmt.Sprintf("{%v %d %.40q}", c.Null, c.N, c.S))
	}
	return "[" + strings.Join(cells, " ") + "]"
}

func wantStep(t *testing.T, a, b api.Schema, e api.Errno) {
	t.Helper()
	if got := Step(a, b); got != e {
		t.Errorf("Step of %s: %d; not %d", told(a, b), got, e)
	}
}

func wantChain(t *testing.T, l []api.Schema, e api.Errno) {
	t.Helper()
	if got := Chain(l); got != e {
		t.Errorf("Chain of %s: %d; not %d", told(l...), got, e)
	}
}

// wantMove holds Move against the row that is wanted, or, if the error is not OK, against none.
func wantMove(t *testing.T, a, b api.Schema, r, want []api.Cell, e api.Errno) {
	t.Helper()
	if got, gotE := Move(a, b, r); !slices.Equal(got, want) || gotE != e {
		t.Errorf("Move of %s, of %s: %s, %d; not %s, %d", told(a, b), toldRow(r), toldRow(got), gotE, toldRow(want), e)
	}
}

func wantCarry(t *testing.T, l []api.Schema, from, to int, r, want []api.Cell, e api.Errno) {
	t.Helper()
	if got, gotE := Carry(l, from, to, r); !slices.Equal(got, want) || gotE != e {
		t.Errorf("Carry along %s, from %d to %d, of %s: %s, %d; not %s, %d", told(l...), from, to, toldRow(r), toldRow(got), gotE, toldRow(want), e)
	}
}
