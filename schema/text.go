package schema

import (
	"iter"
	"slices"
	"strconv"
	"strings"

	"millstream/api"
	"millstream/cell"
)

const (
	blank    = " "
	lineFeed = "\n"
	nullMark = "?"
	keyMark  = "*"

	wordsOfLine = 4 // the last one, the default's text, may have blanks of its own
)

// kindWords are the kinds' words, each at its kind's number; at 0, which is no kind, stands no word.
func kindWords() []string {
	return []string{
		api.TBool:   "bool",
		api.TInt32:  "int32",
		api.TInt64:  "int64",
		api.TString: "string",
		api.TBytes:  "bytes",
	}
}

// Text is a schema as lines.
func Text(s api.Schema) (string, api.Errno) {
	if e := Check(s); e != api.OK {
		return "", e
	}
	var text strings.Builder
	for place, col := range s.Columns {
		writeColumn(&text, col, slices.Contains(s.Keys, place))
	}
	return text.String(), api.OK
}

// writeColumn writes the line of a column of a schema that may be.
func writeColumn(text *strings.Builder, col api.Column, isKey bool) {
	// There is no error: the default is of its type.
	defaultText, _ := cell.Text(col.Type, col.Default)
	words := []string{strconv.Itoa(col.Id), col.Name, typeWord(col.Type, isKey), defaultText}
	text.WriteString(strings.Join(words, blank))
	text.WriteString(lineFeed)
}

func typeWord(t api.Type, isKey bool) string {
	word := kindWords()[t.Kind]
	if t.Null {
		word += nullMark
	}
	if isKey {
		word += keyMark
	}
	return word
}

// Parse reads what Text writes; if it can't be, it tells which line is wrong.
func Parse(text string) (s api.Schema, line int, e api.Errno) {
	if len(text) > api.MaxText {
		return api.Schema{}, 0, api.ErrLimit
	}
	var read api.Schema
	for place, columnLine := range lines(text) {
		col, isKey, ok := readColumn(columnLine)
		if !ok {
			return api.Schema{}, place, api.ErrForm
		}
		if isKey {
			read.Keys = append(read.Keys, place)
		}
		read.Columns = append(read.Columns, col)
	}
	if e := Check(read); e != api.OK {
		return api.Schema{}, 0, e
	}
	return read, 0, api.OK
}

// lines goes over the lines of a text, by their numbers, each with its line feed, for the last one may have none.
func lines(text string) iter.Seq2[int, string] {
	return func(yield func(number int, line string) bool) {
		rest := text
		for number := 0; rest != ""; number++ {
			_, behind, _ := strings.Cut(rest, lineFeed)
			if !yield(number, rest[:len(rest)-len(behind)]) {
				return
			}
			rest = behind
		}
	}
}

// readColumn reads a line with its line feed; false: no column has it.
func readColumn(line string) (col api.Column, isKey, ok bool) {
	line, whole := strings.CutSuffix(line, lineFeed)
	words := strings.SplitN(line, blank, wordsOfLine)
	if !whole || len(words) < wordsOfLine {
		return api.Column{}, false, false
	}
	id, isId := readId(words[0])
	of, isKey := readType(words[2])
	// Of a type that may not be no text is a cell's.
	c, e := cell.Read(of, words[3])
	if !isId || !IsName(words[1]) || e != api.OK {
		return api.Column{}, false, false
	}
	return api.Column{Id: id, Name: words[1], Type: of, Default: c}, isKey, true
}

// readId reads an id; 0 is one in a text, though no schema that may be has it.
func readId(word string) (id int, ok bool) {
	id, e := strconv.Atoi(word)
	if e != nil || id < 0 || id > api.MaxId || strconv.Itoa(id) != word {
		return 0, false
	}
	return id, true
}

// readType reads a type, and whether its column is of the key. If the word is no kind's, the type is one that may not be.
func readType(word string) (t api.Type, isKey bool) {
	word, isKey = strings.CutSuffix(word, keyMark)
	word, null := strings.CutSuffix(word, nullMark)
	return api.Type{Kind: slices.Index(kindWords(), word), Null: null}, isKey
}
