package schema

import (
	"fmt"
	"strings"
	"testing"

	"millstream/api"
)

// single is a schema of one column.
func single(id int, name string, of api.Type, c api.Cell, keys ...int) api.Schema {
	return api.Schema{Columns: []api.Column{{Id: id, Name: name, Type: of, Default: c}}, Keys: keys}
}

// wantTextAndBack holds a schema that may be against its text, both ways.
func wantTextAndBack(t *testing.T, s api.Schema, text string) {
	t.Helper()
	wantText(t, s, text, api.OK)
	wantParse(t, text, s, 0, api.OK)
}

// P11.3, P11.4: the chapter's examples.
func TestExamplesOfTexts(t *testing.T) {
	wantTextAndBack(t, example(), "1 id int64* 0\n3 name string? null\n")
	wantParse(t, "1 id int64* 0", api.Schema{}, 0, api.ErrForm)
	wantParse(t, "1  id int64* 0\n", api.Schema{}, 0, api.ErrForm)
	wantParse(t, "2 a bool false\n1 b bool false\n", api.Schema{}, 0, api.ErrArg)
	wantParse(t, "", api.Schema{}, 0, api.ErrArg)
	wantParse(t, "1 a bool false\n2 b int32 2147483648\n", api.Schema{}, 1, api.ErrForm)
	wantParse(t, "1 a int32?* 0\n", api.Schema{}, 0, api.ErrArg)
	wantParse(t, "01 a bool false\n", api.Schema{}, 0, api.ErrForm)
}

// P11.3, P11.4: the lines of each kind, with their marks.
func TestLinesOfKinds(t *testing.T) {
	maybe := func(of api.Type) api.Type { return api.Type{Kind: of.Kind, Null: true} }
	for _, c := range []struct {
		of   api.Type
		word string
		c    api.Cell
		text string
	}{
		{aBool, "bool", num(0), "false"}, {aBool, "bool", num(1), "true"},
		{anInt32, "int32", num(-5), "-5"}, {anInt32, "int32", num(1<<31 - 1), "2147483647"}, {anInt32, "int32", num(-1 << 31), "-2147483648"},
		{anInt64, "int64", num(0), "0"}, {anInt64, "int64", num(1<<63 - 1), "9223372036854775807"}, {anInt64, "int64", num(-1 << 63), "-9223372036854775808"},
		{aString, "string", run(""), `""`}, {aString, "string", run("a"), `"a"`}, {aString, "string", run(" a  b\n\"*"), `" a  b\n\"*"`}, {aString, "string", run("null"), `"null"`}, {aString, "string", run("\u00e4\x00"), "\"\xc3\xa4\\u0000\""},
		{someOf, "bytes", run(""), "x"}, {someOf, "bytes", run("\x00\xff \n"), "x00ff200a"},
	} {
		wantTextAndBack(t, single(7, "c", c.of, c.c), fmt.Sprintf("7 c %s %s\n", c.word, c.text))
		wantTextAndBack(t, single(7, "c", c.of, c.c, 0), fmt.Sprintf("7 c %s* %s\n", c.word, c.text))
		wantTextAndBack(t, single(7, "c", maybe(c.of), c.c), fmt.Sprintf("7 c %s? %s\n", c.word, c.text))
		wantTextAndBack(t, single(7, "c", maybe(c.of), nothing), fmt.Sprintf("7 c %s? null\n", c.word))
		wantText(t, single(7, "c", maybe(c.of), c.c, 0), "", api.ErrArg)
		wantParse(t, fmt.Sprintf("7 c %s?* %s\n", c.word, c.text), api.Schema{}, 0, api.ErrArg)
		wantParse(t, fmt.Sprintf("7 c %s?* null\n", c.word), api.Schema{}, 0, api.ErrArg)
		wantParse(t, fmt.Sprintf("7 c %s null\n", c.word), api.Schema{}, 0, api.ErrForm)
	}
}

// P11.3, P11.4: keys stand where their marks are.
func TestTextsOfKeys(t *testing.T) {
	for _, keys := range [][]int{nil, {0}, {1}, {2}, {0, 1}, {0, 2}, {1, 2}, {0, 1, 2}} {
		marks := [3]string{}
		for _, place := range keys {
			marks[place] = "*"
		}
		s := with(bools(3, 0), func(s *api.Schema) { s.Keys = keys })
		wantTextAndBack(t, s, fmt.Sprintf("1 c0 bool%s false\n2 c1 bool%s false\n3 c2 bool%s false\n", marks[0], marks[1], marks[2]))
	}
}

// P11.3: of what may not be there is no text.
func TestTextOfWhatMayNotBe(t *testing.T) {
	for _, s := range []api.Schema{
		{}, bools(33, 0), bools(9, 9), single(0, "a", aBool, num(0)), single(1, "A", aBool, num(0)), single(1, "a\n", aBool, num(0)), single(1, "a", api.Type{}, num(0)), single(1, "a", api.Type{Kind: 6}, num(0)), single(1, "a", api.Type{Kind: -1}, num(0)),
		single(1, "a", aBool, num(2)), single(1, "a", aBool, nothing), single(1, "a", aString, run("\xff")), single(1, "a", aBool, num(0), 1), single(1, "a", aBool, num(0), -1), single(1, "a", aBool, num(0), 0, 0),
	} {
		wantText(t, s, "", api.ErrArg)
	}
}

// P11.3: Text is that of the words.
func TestTextIsThatOfTheWords(t *testing.T) {
	next := scatter()
	count := map[api.Errno]int{}
	for range 5000 {
		s := scatteredSchema(next, 1+next(6))
		if next(2) == 0 {
			s = spoilt(next, s)
		}
		text, e := wordText(s)
		wantText(t, s, text, e)
		count[e]++
	}
	if count[api.OK] < 1000 || count[api.ErrArg] < 1000 {
		t.Errorf("the test is wrong: %v", count)
	}
}

// P11.4: ids are digits, without a 0 ahead, at most 2^20; 0 alone may stand in a line, but in no schema.
func TestParseOfIds(t *testing.T) {
	for _, id := range []int{1, 2, 9, 10, 1048575, 1048576} {
		wantParse(t, fmt.Sprintf("%d a bool false\n", id), single(id, "a", aBool, num(0)), 0, api.OK)
	}
	wantParse(t, "0 a bool false\n", api.Schema{}, 0, api.ErrArg)
	wantParse(t, "0 a bool false\n1 b bool false\n", api.Schema{}, 0, api.ErrArg)
	for _, word := range []string{
		"", "00", "01", "001", "-0", "-1", "+1", "+0", "1_0", "0x1", "1.0", "1e2", "a", "1a", "a1", "\u0661", "1\x00", "\t1", "\xff",
		"1048577", "1048580", "2000000", "01048576", "4294967297", "9223372036854775807", "9223372036854775808", "18446744073709551617", "-9223372036854775808", strings.Repeat("9", 100), strings.Repeat("0", 100) + "1",
	} {
		wantParse(t, word+" a bool false\n", api.Schema{}, 0, api.ErrForm)
		wantParse(t, "1 a bool false\n"+word+" b bool false\n", api.Schema{}, 1, api.ErrForm)
	}
}

// P11.4: names are such; two that are the same are told behind all lines.
func TestParseOfNames(t *testing.T) {
	for _, name := range someNames() {
		wantParse(t, "1 "+name+" bool false\n", single(1, name, aBool, num(0)), 0, api.OK)
	}
	for _, other := range someOthers() {
		wantParse(t, "1 "+other+" bool false\n", api.Schema{}, 0, api.ErrForm)
	}
	wantParse(t, "1 a bool false\n2 a bool false\n", api.Schema{}, 0, api.ErrArg)
	wantParse(t, "1 a bool false\n2 a bool false\n3 c bool\n", api.Schema{}, 2, api.ErrForm)
}

// P11.4: words of kinds and their marks.
func TestParseOfTypes(t *testing.T) {
	for _, word := range []string{
		"", "?", "*", "?*", "Bool", "BOOL", "boo", "boole", "bool*?", "bool??", "bool**", "bool?*?", "bool?*x", "?bool", "*bool", "bool ?", "bool *", "bool? *", "bool!", "int", "int16", "int3", "int324", "integer", "text", "byte", "strings", "null", "0", "1", "api", "\xff",
	} {
		for _, text := range []string{"false", "0", "null", `""`, "x", ""} {
			wantParse(t, "1 a "+word+" "+text+"\n", api.Schema{}, 0, api.ErrForm)
		}
	}
}

// P11.4: defaults are texts of cells of their types.
func TestParseOfDefaults(t *testing.T) {
	for _, line := range []string{
		"bool ", "bool 0", "bool 1", "bool False", "bool null", "bool false ", "bool  false", "bool false false", "bool \"false\"", "bool? nul", "bool? nothing",
		"int32 ", "int32 007", "int32 -0", "int32 +1", "int32 2147483648", "int32 -2147483649", "int32 1.0", "int32 1 ", "int32  1", "int32 null", "int32? NULL", "int32 true",
		"int64 9223372036854775808", "int64 -9223372036854775809", "int64 00", "int64 x", "int64? \"\"",
		"string ", "string a", "string \"", "string \"a", "string a\"", "string \"a\" ", "string  \"a\"", "string \"a\"b", "string \"\\u0061\"", "string \"\\/\"", "string \"\\x\"", "string \"\xff\"", "string \"\t\"", "string null", "string? nul", "string x", "string \"" + strings.Repeat("a", 1025) + "\"",
		"bytes ", "bytes x0", "bytes X00", "bytes x0G", "bytes xF0", "bytes 00", "bytes \"\"", "bytes null", "bytes x 00", "bytes x00 ", "bytes x" + strings.Repeat("00", 1025),
	} {
		wantParse(t, "1 a "+line+"\n", api.Schema{}, 0, api.ErrForm)
		wantParse(t, "1 a bool* false\n2 b int64 -7\n3 c "+line+"\n4 d bool false\n", api.Schema{}, 2, api.ErrForm)
	}
}

// P11.4: between words is one blank, and each line has its line feed, the last one, too.
func TestParseOfBlanksAndLineFeeds(t *testing.T) {
	for _, text := range []string{
		"\n", " ", "\r\n", "\x00", "x", " \n", "   \n", "    \n", "\n\n", "\n1 a bool false\n", "1\n", "1 \n", "1 a\n", "1 a \n", "1 a bool\n", "1 a bool \n", "1 a bool", "1 a bool false",
		" 1 a bool false\n", "1  a bool false\n", "1 a  bool false\n", "1 a bool  false\n", "1 a bool false \n", "1\ta bool false\n", "1 a\tbool false\n", "1 a bool\tfalse\n", "1a bool false\n", "1 abool false\n", "1 a boolfalse\n", "1\n a bool false\n", "1 a\nbool false\n", "1 a bool\nfalse\n",
		"1 a bool false\r\n", "1 a bool false\x00\n", "1 a bool false\x00", "1 a bool false 2 b bool false\n", "1 a bool false;2 b bool false\n", "1 a string \"\n\"\n", "\xef\xbb\xbf1 a bool false\n",
	} {
		wantParse(t, text, api.Schema{}, 0, api.ErrForm)
	}
	first := "1 a bool false\n"
	for _, behind := range []string{"\n", " ", " \n", "2 b bool false", "\x00", "1", "x\n", "\n2 b bool false\n", " 2 b bool false\n", "# a remark\n", "2 b bool\n3 c bool false\n"} {
		wantParse(t, first+behind, api.Schema{}, 1, api.ErrForm)
	}
	wantParse(t, first+"2 b bool false\n\n", api.Schema{}, 2, api.ErrForm)
}

// P11.4: of wrong lines the first one is told, and a wrong line ahead of what is wrong with the columns, wherever it stands.
func TestTheFirstWrongLineIsTold(t *testing.T) {
	var text strings.Builder
	for i := range 100 {
		wantParse(t, text.String()+"x\n", api.Schema{}, i, api.ErrForm)
		wantParse(t, text.String()+"x\ny\n1 a bool", api.Schema{}, i, api.ErrForm)
		wantParse(t, text.String()+"1 a bool false", api.Schema{}, i, api.ErrForm)
		fmt.Fprintf(&text, "%d c%d bool* false\n", i+1, i)
	}
	wantParse(t, text.String(), api.Schema{}, 0, api.ErrArg)
	wantParse(t, "2 a bool false\n1 a bool?* null\n0 b bool false\n"+"1 a bool nul\n", api.Schema{}, 3, api.ErrForm)
}

// P11.4: lines that columns have may be together no schema.
func TestParseOfColumnsThatAreNoSchema(t *testing.T) {
	for _, text := range []string{
		"", "1 a bool false\n1 b bool false\n", "2 a bool false\n1 b bool false\n", "1 a bool false\n2 a bool false\n", "0 a bool false\n", "1 a bool?* null\n", "1 a bool* false\n2 b int64?* 0\n", "1 a bool false\n3 b bool false\n2 c bool false\n",
	} {
		wantParse(t, text, api.Schema{}, 0, api.ErrArg)
	}
	for _, c := range []struct {
		columns, keys int
		e             api.Errno
	}{{32, 8, api.OK}, {33, 8, api.ErrArg}, {32, 9, api.ErrArg}, {8, 8, api.OK}, {9, 9, api.ErrArg}, {1, 1, api.OK}, {5000, 0, api.ErrArg}} {
		text := ""
		s := bools(c.columns, c.keys)
		for i, col := range s.Columns {
			text += wordLine(col, i < c.keys)
		}
		if c.e == api.OK {
			wantParse(t, text, s, 0, api.OK)
		} else {
			wantParse(t, text, api.Schema{}, 0, c.e)
		}
	}
}

// P11.4: more than 2^20 bytes are too many, whatever they are; 2^20 are not.
func TestParseOfLongTexts(t *testing.T) {
	const most = 1 << 20
	line := "1 a int32 0\n"
	many := most/len(line) - 1
	last := "1 " + strings.Repeat("a", 1+most-(many+1)*len(line)) + " int32 0\n"
	full := strings.Repeat(line, many) + last
	if len(full) != most {
		t.Fatalf("the test is wrong: %d", len(full))
	}
	wantParse(t, full, api.Schema{}, 0, api.ErrArg)
	wantParse(t, full[:most-1], api.Schema{}, many, api.ErrForm)
	wantParse(t, "x"+full[1:], api.Schema{}, 0, api.ErrForm)
	wantParse(t, full+"\n", api.Schema{}, 0, api.ErrLimit)
	wantParse(t, "x"+full, api.Schema{}, 0, api.ErrLimit)
	for _, piece := range []string{"\n", " ", "1", "a", "\x00", "\"", "1 a string \"", "1 a bytes x"} {
		text := strings.Repeat(piece, most/len(piece)+1)
		wantParse(t, text[:most], api.Schema{}, 0, api.ErrForm)
		wantParse(t, text[:most]+"1", api.Schema{}, 0, api.ErrLimit)
		wantParse(t, "1 a bool false\n"+text[:most-15], api.Schema{}, 1, api.ErrForm)
	}
}

// P11.4: Parse is that of the words, of texts in which a byte, or a piece, is changed, put in, or left out.
func TestParseIsThatOfTheWords(t *testing.T) {
	next := scatter()
	count := map[api.Errno]int{}
	pieces := []string{"\n", " ", "  ", "0", "1", "9", "-", "_", "a", "A", "?", "*", "?*", "*?", "\"", "\\", "x", "null", "false", "bool", "int32", "int64", "string", "bytes", "\r", "\t", "\x00", "\xff", "\u00e4", " \n", "\n\n", "1 a bool false\n"}
	for range 40000 {
		s := scatteredSchema(next, 1+next(4))
		text, _ := wordText(s)
		for range 1 + next(2) {
			at := next(len(text) + 1)
			behind := min(len(text), at+next(3))
			text = text[:at] + []string{"", one(next, pieces)}[next(2)] + text[behind:]
		}
		count[wantParseOfTheWords(t, text)]++
	}
	if count[api.OK] < 1000 || count[api.ErrForm] < 1000 || count[api.ErrArg] < 100 {
		t.Errorf("the test is wrong: %v", count)
	}
}

// P11.4: Parse is that of the words, of lines put together of words that may stand there and such that may not.
func TestParseOfScatteredLines(t *testing.T) {
	next := scatter()
	count := map[api.Errno]int{}
	ids := []string{"1", "2", "3", "4", "10", "0", "1048576", "1048577", "01", "-1", ""}
	names := []string{"a", "b", "c", "d_9", longName, longName + "a", "A", ""}
	words := []string{"bool", "int32", "int64", "string", "bytes"}
	marks := []string{"", "", "", "?", "?", "?", "*", "*", "?*", "*?", "??"}
	defaults := []string{"false", "0", "1", "null", "-1", `""`, `"a b"`, "x", "x00", "2147483648", ""}
	blanks := []string{"  ", "", "\t"}
	ends := []string{"", " \n", "\n\n"}
	mostly := func(usual string, others []string) string {
		if next(30) == 0 {
			return one(next, others)
		}
		return usual
	}
	for range 60000 {
		text := ""
		for line := range next(4) {
			text += mostly(ids[line], ids) + mostly(" ", blanks) + mostly(names[line], names) + mostly(" ", blanks) + one(next, words) + one(next, marks) + mostly(" ", blanks) + one(next, defaults) + mostly("\n", ends)
		}
		count[wantParseOfTheWords(t, text)]++
	}
	if count[api.OK] < 500 || count[api.ErrForm] < 1000 || count[api.ErrArg] < 500 {
		t.Errorf("the test is wrong: %v", count)
	}
}

// P11.4: of all lines of a few pieces just those are read that the words let be.
func TestParseOfAllShortLines(t *testing.T) {
	count := map[api.Errno]int{}
	var grow func(text string, pieces []string, left int)
	grow = func(text string, pieces []string, left int) {
		count[wantParseOfTheWords(t, text)]++
		for i := 0; left > 0 && i < len(pieces); i++ {
			grow(text+pieces[i], pieces, left-1)
		}
	}
	grow("", []string{"1", " ", "a", " bool", " false", "\n", "?", "*"}, 6)
	grow("1 a", []string{" ", "bytes", "string", "null", "x", `""`, "?", "*", "\n"}, 5)
	grow("", []string{"1 a bool false\n", "2 b bool* true\n", "3 c bool? null\n", "0 d bool false\n", "\n", "x"}, 5)
	if count[api.OK] < 10 || count[api.ErrForm] < 10000 || count[api.ErrArg] < 10 {
		t.Errorf("the test is wrong: %v", count)
	}
}
