package jshow

import (
	"iter"
	"strconv"
	"strings"

	"millstream/api"
	"millstream/utf"
)

// writer is a text that grows up to its limit.
type writer struct {
	strings.Builder
	full bool // something did not fit: nothing comes of the text any more
}

// fits tells whether so many bytes more may be put. Behind what did not fit none may, however few: that would be work for nothing.
func (w *writer) fits(size int) bool {
	if size > api.MaxText-w.Len() {
		w.full = true
	}
	return !w.full
}

func (w *writer) put(s string) {
	if w.fits(len(s)) {
		w.WriteString(s)
	}
}

// putValue puts a tape that may be.
func (w *writer) putValue(t []api.Node) {
	root := t[0]
	switch root.Kind {
	case api.KNull:
		w.put("null")
	case api.KFalse:
		w.put("false")
	case api.KTrue:
		w.put("true")
	case api.KNum:
		w.put(strconv.FormatInt(root.N, 10))
	case api.KStr:
		w.putLiteral(root.S)
	case api.KList:
		w.put("[")
		w.putParts(t)
		w.put("]")
	case api.KObj:
		w.put("{")
		w.putParts(t)
		w.put("}")
	}
}

// putParts puts those of a list or an object, with commas between them.
func (w *writer) putParts(t []api.Node) {
	isObject := t[0].Kind == api.KObj
	for i, part := range partsOf(t) {
		if i > 0 {
			w.put(",")
		}
		if isObject {
			w.putLiteral(part[0].Key)
			w.put(":")
		}
		w.putValue(part)
	}
}

// putLiteral puts a text that is UTF-8.
func (w *writer) putLiteral(text string) {
	// No literal is shorter than what it says: a text that is too long already is not spelt out for nothing.
	if !w.fits(len(text)) {
		return
	}
	// There is no error: texts and keys of a tape that may be are UTF-8.
	literal, _ := utf.Quote(text)
	w.put(literal)
}

// partsOf goes over the parts of a tape's root, numbered from 0 on. Each is a piece of the tape, its key still on its first node.
func partsOf(t []api.Node) iter.Seq2[int, []api.Node] {
	return func(yield func(int, []api.Node) bool) {
		rest := t[1:]
		for i := 0; len(rest) > 0; i++ {
			size := rest[0].Size
			if !yield(i, rest[:size]) {
				return
			}
			rest = rest[size:]
		}
	}
}
