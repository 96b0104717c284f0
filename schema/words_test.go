package schema

import (
	"fmt"
	"math"
	"math/big"
	"math/rand/v2"
	"reflect"
	"regexp"
	"slices"
	"strings"
	"testing"

	"millstream/api"
	"millstream/cell"
)

var wordNames = regexp.MustCompile(`^[a-z][a-z0-9_]{0,31}$`)

// wordIsName tells whether a text is a name; $ is the end of the text alone, not a line feed ahead of it.
func wordIsName(s string) bool {
	return wordNames.MatchString(s)
}

// wordRises tells whether numbers rise, and are from least to most.
func wordRises(numbers []int, least, most int) bool {
	for i, n := range numbers {
		if n < least || n > most || i > 0 && n <= numbers[i-1] {
			return false
		}
	}
	return true
}

// wordCheck is P11.1 of schemas.
func wordCheck(s api.Schema) api.Errno {
	var ids []int
	names := map[string]bool{}
	for _, col := range s.Columns {
		ids = append(ids, col.Id)
		names[col.Name] = true
		if !wordIsName(col.Name) || !cell.May(col.Type) || cell.Check(col.Type, col.Default) != api.OK {
			return api.ErrArg
		}
	}
	many := len(s.Columns)
	if many == 0 || many > 32 || len(names) != many || !wordRises(ids, 1, 1048576) || len(s.Keys) > 8 || !wordRises(s.Keys, 0, many-1) {
		return api.ErrArg
	}
	for _, place := range s.Keys {
		if s.Columns[place].Type.Null {
			return api.ErrArg
		}
	}
	return api.OK
}

// wordLine is a column's line.
func wordLine(col api.Column, isKey bool) string {
	word := map[int]string{api.TBool: "bool", api.TInt32: "int32", api.TInt64: "int64", api.TString: "string", api.TBytes: "bytes"}[col.Type.Kind]
	null := map[bool]string{true: "?"}[col.Type.Null]
	key := map[bool]string{true: "*"}[isKey]
	text, e := cell.Text(col.Type, col.Default)
	if e != api.OK {
		panic("the test is wrong: the line of a column that may not be")
	}
	return fmt.Sprintf("%d %s %s%s%s %s\n", col.Id, col.Name, word, null, key, text)
}

// wordText is P11.3.
func wordText(s api.Schema) (string, api.Errno) {
	if e := wordCheck(s); e != api.OK {
		return "", e
	}
	text := ""
	for place, col := range s.Columns {
		text += wordLine(col, slices.Contains(s.Keys, place))
	}
	return text, api.OK
}

var wordLines = regexp.MustCompile(`^(0|[1-9][0-9]*) ([a-z][a-z0-9_]{0,31}) (bool|int32|int64|string|bytes)(\??)(\*?) (.+)\n$`)

// wordColumn is the column that has a line; false: there is none.
func wordColumn(line string) (col api.Column, isKey, ok bool) {
	m := wordLines.FindStringSubmatch(line)
	if m == nil {
		return api.Column{}, false, false
	}
	id, _ := new(big.Int).SetString(m[1], 10)
	if id.Cmp(big.NewInt(1048576)) > 0 {
		return api.Column{}, false, false
	}
	kind := map[string]int{"bool": api.TBool, "int32": api.TInt32, "int64": api.TInt64, "string": api.TString, "bytes": api.TBytes}[m[3]]
	of := api.Type{Kind: kind, Null: m[4] == "?"}
	c, e := cell.Read(of, m[6])
	return api.Column{Id: int(id.Int64()), Name: m[2], Type: of, Default: c}, m[5] == "*", e == api.OK
}

// wordParse is P11.4.
func wordParse(text string) (s api.Schema, line int, e api.Errno) {
	if len(text) > 1048576 {
		return api.Schema{}, 0, api.ErrLimit
	}
	all := strings.SplitAfter(text, "\n")
	if all[len(all)-1] == "" {
		all = all[:len(all)-1]
	}
	for i, line := range all {
		col, isKey, ok := wordColumn(line)
		if !ok {
			return api.Schema{}, i, api.ErrForm
		}
		s.Columns = append(s.Columns, col)
		if isKey {
			s.Keys = append(s.Keys, i)
		}
	}
	if e := wordCheck(s); e != api.OK {
		return api.Schema{}, 0, e
	}
	return s, 0, api.OK
}

// scatter answers numbers below a limit that lie scattered, the same ones in each run.
func scatter() func(below int) int {
	return rand.New(rand.NewPCG(11, 11)).IntN
}

// one is an element of a list.
func one[T any](next func(below int) int, list []T) T {
	return list[next(len(list))]
}

// typesThatMay are all types that may be; typesThatMayNot are some of the others.
func typesThatMay() []api.Type {
	var l []api.Type
	for _, kind := range []int{api.TBool, api.TInt32, api.TInt64, api.TString, api.TBytes} {
		l = append(l, api.Type{Kind: kind}, api.Type{Kind: kind, Null: true})
	}
	return l
}

func typesThatMayNot() []api.Type {
	return []api.Type{{}, {Null: true}, {Kind: 6}, {Kind: -1}, {Kind: -1, Null: true}, {Kind: math.MaxInt}, {Kind: math.MinInt}}
}

// anyCells are cells of some types, and of none.
func anyCells() []api.Cell {
	return []api.Cell{
		nothing, num(0), num(1), num(2), num(-1), num(math.MinInt32), num(math.MaxInt32), num(math.MaxInt32 + 1), num(math.MinInt64), num(math.MaxInt64),
		run(""), run("a"), run("a b"), run(" "), run("null"), run("\""), run("\n"), run("a\nb"), run("\x00"), run("\xff"), run("\u00e4\u2028"), run("*"),
		run(strings.Repeat("a", 1024)), run(strings.Repeat("\x01", 1024)), run(strings.Repeat("a", 1025)),
		{Null: true, N: 1}, {Null: true, S: "a"}, {N: 1, S: "a"},
	}
}

// cellsOf are those of anyCells that are of a type.
func cellsOf(of api.Type) []api.Cell {
	return slices.DeleteFunc(anyCells(), func(c api.Cell) bool { return cell.Check(of, c) != api.OK })
}

// someNames are names, and someOthers are none.
func someNames() []string {
	return []string{"a", "z", "m", "az", "a1", "a_", "a_1", "z09", "a__", "id", "name", "bool", "null", "a0123456789", longName, longName[:31]}
}

func someOthers() []string {
	return []string{
		"", "A", "1a", "_a", "_", "0", "9", "aA", "a-b", "a b", " a", "a ", "a\n", "a.", "a*", "a?", "`", "{", "a`", "a{", "a/", "a:", "@", "aZ", "a^", "a\x00", "\x00", "a\xff", "\u00e4", "a\u00e4", "a\u0661",
		longName + "a", longName + longName, longName[:31] + "A", strings.Repeat("a", 33), strings.Repeat("a", 1024),
	}
}

// scatteredSchema is one that may be, of so many columns.
func scatteredSchema(next func(below int) int, many int) api.Schema {
	var s api.Schema
	id := 0
	for place := range many {
		id += 1 + next(3)*next(10000)
		of := one(next, typesThatMay())
		s.Columns = append(s.Columns, api.Column{Id: id, Name: fmt.Sprintf("%s%d", one(next, []string{"a", "b_", "x9_"}), place), Type: of, Default: one(next, cellsOf(of))})
		if !of.Null && len(s.Keys) < 8 && next(2) == 0 {
			s.Keys = append(s.Keys, place)
		}
	}
	return s
}

// copyOf is a schema, copied by the test's own means.
func copyOf(s api.Schema) api.Schema {
	return api.Schema{Columns: append([]api.Column(nil), s.Columns...), Keys: append([]int(nil), s.Keys...)}
}

// sameAs tells whether two schemas are the same, by the test's own means.
func sameAs(a, b api.Schema) bool {
	return reflect.DeepEqual(copyOf(a), copyOf(b))
}

// short is a text for telling it, be it ever so long.
func short(s string) string {
	if len(s) > 200 {
		return fmt.Sprintf("%.100q .. %q (%d bytes)", s, s[len(s)-100:], len(s))
	}
	return fmt.Sprintf("%q", s)
}

// told is a schema for telling it.
func told(s api.Schema) string {
	return short(fmt.Sprintf("%v", s))
}

func wantCheck(t *testing.T, s api.Schema, e api.Errno) {
	t.Helper()
	if got := Check(s); got != e {
		t.Errorf("Check(%s): %d; not %d", told(s), got, e)
	}
}

// wantSame holds Same, both ways, against whether two are the same.
func wantSame(t *testing.T, a, b api.Schema, want bool) {
	t.Helper()
	if got, turned := Same(a, b), Same(b, a); got != want || turned != want {
		t.Errorf("Same of %s and %s: %v, and turned round %v; not %v", told(a), told(b), got, turned, want)
	}
}

func wantPlace(t *testing.T, s api.Schema, id, want int, is bool) {
	t.Helper()
	if got, gotIs := Place(s, id); got != want || gotIs != is {
		t.Errorf("Place(%s, %d): %d, %v; not %d, %v", told(s), id, got, gotIs, want, is)
	}
}

func wantNamed(t *testing.T, s api.Schema, name string, want int, is bool) {
	t.Helper()
	if got, gotIs := Named(s, name); got != want || gotIs != is {
		t.Errorf("Named(%s, %q): %d, %v; not %d, %v", told(s), name, got, gotIs, want, is)
	}
}

func wantText(t *testing.T, s api.Schema, want string, e api.Errno) {
	t.Helper()
	if got, gotE := Text(s); got != want || gotE != e {
		t.Errorf("Text(%s): %s, %d; not %s, %d", told(s), short(got), gotE, short(want), e)
	}
}

func wantParse(t *testing.T, text string, want api.Schema, line int, e api.Errno) {
	t.Helper()
	if got, gotLine, gotE := Parse(text); !sameAs(got, want) || gotLine != line || gotE != e {
		t.Errorf("Parse(%s): %s, %d, %d; not %s, %d, %d", short(text), told(got), gotLine, gotE, told(want), line, e)
	}
}

// wantParseOfTheWords holds Parse against the document's words, and answers the error that these tell.
func wantParseOfTheWords(t *testing.T, text string) api.Errno {
	t.Helper()
	s, line, e := wordParse(text)
	wantParse(t, text, s, line, e)
	return e
}
