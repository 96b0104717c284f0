package jread

import (
	"strconv"
	"strings"

	"millstream/api"
	"millstream/tape"
	"millstream/utf"
)

const (
	blanks      = " \t\n\r"
	digits      = "0123456789"
	quote       = '"'
	valueBegins = `nft-"[{` + digits
)

// reader goes along a text. When something is wrong, it stands at the place of the error.
type reader struct {
	text string
	at   int
	next state
	key  string // of the member whose value comes next
	open []opened
	tape []api.Node
}

// opened is a list or an object that has not ended yet.
type opened struct {
	place int // of its node
	end   byte
	keys  map[string]struct{} // those that an object had; nil of a list
}

// here is the byte at which the reader stands. At the text's end it is 0, which may not stand anywhere, either.
func (r *reader) here() byte {
	if r.at == len(r.text) {
		return 0
	}
	return r.text[r.at]
}

// stands tells whether one of some bytes is here.
func (r *reader) stands(some string) bool {
	return strings.IndexByte(some, r.here()) >= 0
}

func (r *reader) skipBlanks() {
	for r.stands(blanks) {
		r.at++
	}
}

// takeMark takes one byte, and says what stands behind it.
func (r *reader) takeMark(mark byte, then state) api.Errno {
	if r.here() != mark {
		return api.ErrJson
	}
	r.at++
	r.next = then
	return api.OK
}

// takeValue takes a value; of a list or an object its beginning alone.
func (r *reader) takeValue() api.Errno {
	switch {
	case !r.stands(valueBegins):
		return api.ErrJson
	case len(r.tape) >= api.MaxNodes:
		return api.ErrLimit
	case len(r.open) >= api.MaxDeep:
		return api.ErrDeep
	}
	switch r.here() {
	case 'n':
		return r.takeWord("null", tape.Null())
	case 'f':
		return r.takeWord("false", tape.Bool(false))
	case 't':
		return r.takeWord("true", tape.Bool(true))
	case quote:
		return r.takeText()
	case '[':
		r.begin(api.KList, opened{end: ']'})
		return api.OK
	case '{':
		r.begin(api.KObj, opened{end: '}', keys: map[string]struct{}{}})
		return api.OK
	}
	return r.takeNumber()
}

// put lays a value's nodes behind the others, below the key that was read ahead of it.
func (r *reader) put(value []api.Node) {
	value[0].Key = r.key
	r.key = ""
	r.tape = append(r.tape, value...)
	r.next = behindNext
}

// begin opens a list or an object. How many nodes it has is told where it ends.
func (r *reader) begin(kind int, o opened) {
	o.place = len(r.tape)
	r.open = append(r.open, o)
	r.put([]api.Node{{Kind: kind}})
	r.at++
	r.next = partNext
}

// takeEnd takes the end of what was opened last, if it stands here.
func (r *reader) takeEnd() bool {
	last := len(r.open) - 1
	o := r.open[last]
	if r.here() != o.end {
		return false
	}
	r.tape[o.place].Size = len(r.tape) - o.place
	r.open = r.open[:last]
	r.at++
	r.next = behindNext
	return true
}

// aheadOfPart is what a part of what was opened last begins with.
func (r *reader) aheadOfPart() state {
	if r.open[len(r.open)-1].keys == nil {
		return valueNext
	}
	return keyNext
}

func (r *reader) takeKey() api.Errno {
	if r.here() != quote {
		return api.ErrJson
	}
	key, size, e := utf.Unquote(r.text[r.at:])
	if e != api.OK {
		return e
	}
	had := r.open[len(r.open)-1].keys
	if _, twice := had[key]; twice {
		return api.ErrTwice
	}
	had[key] = struct{}{}
	r.key = key
	r.at += size
	r.next = colonNext
	return api.OK
}

func (r *reader) takeText() api.Errno {
	text, size, e := utf.Unquote(r.text[r.at:])
	if e != api.OK {
		return e
	}
	r.at += size
	r.put(tape.Str(text))
	return api.OK
}

func (r *reader) takeWord(word string, value []api.Node) api.Errno {
	for i := range len(word) {
		if r.here() != word[i] {
			return api.ErrJson
		}
		r.at++
	}
	r.put(value)
	return api.OK
}

func (r *reader) takeNumber() api.Errno {
	begin := r.at
	if !r.skipNumber() {
		return api.ErrJson
	}
	// Points and exponents are no digits: the library refuses them as it does what 64 bits can't hold.
	n, err := strconv.ParseInt(r.text[begin:r.at], 10, 64)
	if err != nil {
		r.at = begin
		return api.ErrWhole
	}
	r.put(tape.Num(n))
	return api.OK
}

// skipNumber goes on to a number's end, or to the first byte that makes it none.
func (r *reader) skipNumber() bool {
	r.skipOne("-")
	if !r.skipOne("0") && !r.skipDigits() {
		return false
	}
	if r.skipOne(".") && !r.skipDigits() {
		return false
	}
	if !r.skipOne("eE") {
		return true
	}
	r.skipOne("+-")
	return r.skipDigits()
}

// skipOne goes over one of some bytes, if it is here.
func (r *reader) skipOne(of string) bool {
	if !r.stands(of) {
		return false
	}
	r.at++
	return true
}

// skipDigits goes over digits; false: none are here.
func (r *reader) skipDigits() bool {
	begin := r.at
	for r.skipOne(digits) {
	}
	return r.at > begin
}
