package pack

import (
	"bytes"

	"millstream/api"
	"millstream/leb"
)

// Writer puts pieces.
type Writer struct {
	held
	most int
}

// NewWriter makes one of a limit.
func NewWriter(most int) *Writer {
	return &Writer{held: held{made: true}, most: max(most, 0)}
}

// Byte puts a byte.
func (w *Writer) Byte(c byte) {
	w.put([]byte{c})
}

// Var puts a number.
func (w *Writer) Var(n uint64) {
	w.put(leb.Put(nil, n))
}

// Int puts a number with a sign.
func (w *Writer) Int(n int64) {
	w.put(leb.PutInt(nil, n))
}

// Text puts a text, with how many bytes it has ahead of it.
func (w *Writer) Text(s string) {
	// In one, so that a text that does not fit leaves no number behind.
	w.put(append(leb.Put(nil, uint64(len(s))), s...))
}

// Raw puts bytes as they are.
func (w *Writer) Raw(b []byte) {
	w.put(b)
}

// Word puts four bytes, the lowest one first.
func (w *Writer) Word(n uint32) {
	var word [wordSize]byte
	for i := range word {
		word[i] = byte(n >> (8 * i))
	}
	w.put(word[:])
}

// Len is how many bytes there are.
func (w *Writer) Len() int {
	if w == nil {
		return 0
	}
	return len(w.bytes)
}

// Done is them.
func (w *Writer) Done() ([]byte, api.Errno) {
	if w == nil {
		return nil, api.ErrNil
	}
	if e := w.trouble(); e != api.OK {
		return nil, e
	}
	// A copy, for more may be put behind.
	return bytes.Clone(w.bytes), api.OK
}

// put puts a piece's bytes, all of them or none.
func (w *Writer) put(piece []byte) {
	if w == nil || w.trouble() != api.OK {
		return
	}
	if len(piece) > w.most-len(w.bytes) {
		w.fail(api.ErrLimit)
		return
	}
	w.bytes = append(w.bytes, piece...)
}
