package schema

import (
	"fmt"
	"slices"
	"strings"
	"testing"

	"millstream/api"
)

// schemasThatMay are such: chosen ones at the edges, and scattered ones.
func schemasThatMay() []api.Schema {
	l := []api.Schema{example(), bools(1, 0), bools(1, 1), bools(8, 8), bools(32, 0), bools(32, 8)}
	longest := api.Schema{Keys: []int{0, 1, 2, 3, 4, 5, 6, 7}}
	for i := range 32 {
		// Each byte of such a default is six in its text.
		longest.Columns = append(longest.Columns, api.Column{Id: 1048576 - 31 + i, Name: fmt.Sprintf("%s%02d", longName[:30], i), Type: aString, Default: run(strings.Repeat("\x01", 1024))})
	}
	l = append(l, longest)
	next := scatter()
	for many := range 2000 {
		l = append(l, scatteredSchema(next, 1+many%32))
	}
	return l
}

// P11.6: what may be is read of its text as it was.
func TestTextsAreReadAsTheyWere(t *testing.T) {
	for _, s := range schemasThatMay() {
		text, e := Text(s)
		if e != api.OK || strings.Count(text, "\n") != len(s.Columns) || strings.Count(text, "* ") < len(s.Keys) {
			t.Fatalf("Text(%s): %s, %d", told(s), short(text), e)
		}
		wantParse(t, text, s, 0, api.OK)
		got, _, _ := Parse(text)
		wantSame(t, got, s, true)
	}
}

// P11.6: what is read may be, and has the text that it was read of; no two texts are read as the same.
func TestWhatIsReadHasThatText(t *testing.T) {
	next := scatter()
	read := 0
	for range 40000 {
		text, _ := wordText(scatteredSchema(next, 1+next(3)))
		at := next(len(text))
		text = text[:at] + one(next, []string{"", "0", "1", "a", "_", " ", "?", "*", "\"", "b"}) + text[min(len(text), at+next(2)):]
		s, _, e := Parse(text)
		if e != api.OK {
			continue
		}
		read++
		wantCheck(t, s, api.OK)
		wantText(t, s, text, api.OK)
	}
	if read < 1000 {
		t.Errorf("the test is wrong: %d", read)
	}
}

// without is a schema without a column.
func without(s api.Schema, place int) api.Schema {
	left := api.Schema{Columns: slices.Delete(slices.Clone(s.Columns), place, place+1)}
	for _, key := range s.Keys {
		switch {
		case key < place:
			left.Keys = append(left.Keys, key)
		case key > place:
			left.Keys = append(left.Keys, key-1)
		}
	}
	return left
}

// P11.7: a text without a line is that of the schema without that column; without its last line it is none.
func TestTextsWithoutALine(t *testing.T) {
	for _, s := range schemasThatMay() {
		text, _ := Text(s)
		all := strings.SplitAfter(text, "\n")
		for place := range s.Columns {
			rest := strings.Join(slices.Delete(slices.Clone(all), place, place+1), "")
			left := without(s, place)
			if len(left.Columns) == 0 {
				wantParse(t, rest, api.Schema{}, 0, api.ErrArg)
				wantText(t, left, "", api.ErrArg)
				continue
			}
			wantText(t, left, rest, api.OK)
			wantParse(t, rest, left, 0, api.OK)
		}
	}
}

// P11.8: each column is found where it stands.
func TestEachColumnIsFound(t *testing.T) {
	for _, s := range schemasThatMay() {
		for place, col := range s.Columns {
			wantPlace(t, s, col.Id, place, true)
			wantNamed(t, s, col.Name, place, true)
		}
		last := s.Columns[len(s.Columns)-1]
		wantPlace(t, s, last.Id+1, 0, false)
		wantNamed(t, s, last.Name+"_", 0, false)
	}
}
