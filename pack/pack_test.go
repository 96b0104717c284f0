package pack

import (
	"bytes"
	"fmt"
	"math"
	"strings"
	"testing"

	"millstream/api"
	"millstream/leb"
)

// piece is one that is put, and taken again: its bytes as the document's section Words says them, and what is asked of a writer and a reader for it.
type piece struct {
	name  string
	bytes string
	put   func(w *Writer)
	take  func(r *Reader) any // what is answered
	want  any                 // of what was put
}

func pieceOfByte(c byte) piece {
	return piece{fmt.Sprintf("Byte(%d)", c), string([]byte{c}),
		func(w *Writer) { w.Byte(c) }, func(r *Reader) any { return r.Byte() }, c}
}

func pieceOfVar(n uint64) piece {
	return piece{fmt.Sprintf("Var(%d)", n), string(leb.Put(nil, n)),
		func(w *Writer) { w.Var(n) }, func(r *Reader) any { return r.Var() }, n}
}

func pieceOfInt(n int64) piece {
	return piece{fmt.Sprintf("Int(%d)", n), string(leb.PutInt(nil, n)),
		func(w *Writer) { w.Int(n) }, func(r *Reader) any { return r.Int() }, n}
}

func pieceOfText(s string) piece {
	return piece{fmt.Sprintf("Text of %d bytes", len(s)), string(leb.Put(nil, uint64(len(s)))) + s,
		func(w *Writer) { w.Text(s) }, func(r *Reader) any { return r.Text(len(s)) }, s}
}

func pieceOfRaw(s string) piece {
	return piece{fmt.Sprintf("Raw of %d bytes", len(s)), s,
		func(w *Writer) { w.Raw([]byte(s)) }, func(r *Reader) any { return string(r.Raw(len(s))) }, s}
}

func pieceOfWord(n uint32) piece {
	word := []byte{byte(n % 256), byte(n / 256 % 256), byte(n / 65536 % 256), byte(n / 16777216)}
	return piece{fmt.Sprintf("Word(%d)", n), string(word),
		func(w *Writer) { w.Word(n) }, func(r *Reader) any { return r.Word() }, n}
}

// pieces are some of each kind, at the ends of what there is, and where the number of bytes changes.
func pieces() []piece {
	var l []piece
	for _, c := range []byte{0, 1, 7, 127, 128, 255} {
		l = append(l, pieceOfByte(c))
	}
	for _, n := range []uint64{0, 1, 127, 128, 300, 16383, 16384, math.MaxInt64, 1 << 63, math.MaxUint64} {
		l = append(l, pieceOfVar(n))
	}
	for _, n := range []int64{0, -1, 1, -64, 63, 64, -65, math.MaxInt64, math.MinInt64} {
		l = append(l, pieceOfInt(n))
	}
	for _, s := range []string{"", "a", "ab", "\x00", "\xff\xfe", "\x80\x00", "h\u00e9", strings.Repeat("x", 127), strings.Repeat("y", 128), strings.Repeat("z", 1000)} {
		l = append(l, pieceOfText(s), pieceOfRaw(s))
	}
	for _, n := range []uint32{0, 1, 255, 256, 0x01020304, 0x80000000, math.MaxUint32} {
		l = append(l, pieceOfWord(n))
	}
	return l
}

// scatter answers numbers that lie scattered, the same ones in each run.
func scatter() func() uint64 {
	x := uint64(88172645463325252)
	return func() uint64 {
		x ^= x << 13
		x ^= x >> 7
		x ^= x << 17
		return x
	}
}

// rows are lists of pieces: none, each piece alone, and scattered ones behind each other.
func rows() [][]piece {
	all := pieces()
	l := [][]piece{nil, all}
	for _, p := range all {
		l = append(l, []piece{p})
	}
	next := scatter()
	for i := range 300 {
		var row []piece
		for range i%8 + 2 {
			row = append(row, all[next()>>20%uint64(len(all))])
		}
		l = append(l, row)
	}
	return l
}

func namesOf(row []piece) string {
	var names []string
	for _, p := range row {
		names = append(names, p.name)
	}
	return strings.Join(names, ", ")
}

func bytesOf(row []piece) string {
	var all string
	for _, p := range row {
		all += p.bytes
	}
	return all
}

// written is a writer of a limit, with those pieces put.
func written(most int, row []piece) *Writer {
	w := NewWriter(most)
	for _, p := range row {
		p.put(w)
	}
	return w
}

// wantWriter holds a writer against the bytes that it has, and its error.
func wantWriter(t *testing.T, what string, w *Writer, has string, e api.Errno) {
	t.Helper()
	if got := w.Len(); got != len(has) {
		t.Errorf("%s: Len %d; want %d", what, got, len(has))
	}
	told := has
	if e != api.OK {
		told = ""
	}
	if b, ge := w.Done(); string(b) != told || ge != e {
		t.Errorf("%s: Done % x, %d; want % x, %d", what, b, ge, told, e)
	}
}

// wantReader holds a reader against its place, how much is left, and its error.
func wantReader(t *testing.T, what string, r *Reader, at, left int, e api.Errno) {
	t.Helper()
	end := e
	if e == api.OK && left > 0 {
		end = api.ErrTail
	}
	if r.At() != at || r.Left() != left || r.Err() != e || r.End() != end || r.Err() != e {
		t.Errorf("%s: At %d, Left %d, End %d, Err %d; want %d, %d, %d, %d", what, r.At(), r.Left(), r.End(), r.Err(), at, left, end, e)
	}
}

func want[T comparable](t *testing.T, what string, got, wanted T) {
	t.Helper()
	if got != wanted {
		t.Errorf("%s: %v; want %v", what, got, wanted)
	}
}

// asked is a call that takes something of a reader; what it answers is zero where nothing is taken.
type asked struct {
	name string
	take func(r *Reader) any
	zero any
}

// askings are all calls that take, with limits and sizes of all kinds.
func askings() []asked {
	l := []asked{
		{"Byte", func(r *Reader) any { return r.Byte() }, byte(0)},
		{"Var", func(r *Reader) any { return r.Var() }, uint64(0)},
		{"Int", func(r *Reader) any { return r.Int() }, int64(0)},
		{"Word", func(r *Reader) any { return r.Word() }, uint32(0)},
	}
	for _, n := range []int{0, 1, 2, 5, math.MaxInt, -1, math.MinInt} {
		l = append(l,
			asked{fmt.Sprintf("Text(%d)", n), func(r *Reader) any { return r.Text(n) }, ""},
			asked{fmt.Sprintf("Raw(%d)", n), func(r *Reader) any { return string(r.Raw(n)) }, ""})
	}
	return l
}

// scribble writes over all of a list's memory, its spare room too.
func scribble(b []byte) {
	b = b[:cap(b)]
	for i := range b {
		b[i] = ^b[i]
	}
}

// roomy is bytes with spare room behind them, and all of that memory.
func roomy(s string) (b, room []byte) {
	room = []byte(s + "spare room")
	return room[:len(s)], room
}

// P3.1, P3.2: the chapter's examples.
func TestExamples(t *testing.T) {
	w := NewWriter(6)
	w.Byte(7)
	w.Text("ab")
	w.Int(-1)
	wantWriter(t, "7, ab, -1", w, "\x07\x02ab\x01", api.OK)
	w.Word(1)
	want(t, "Len behind a word", w.Len(), 5)
	w.Byte(1)
	wantWriter(t, "behind a word, and a byte", w, "\x07\x02ab\x01", api.ErrLimit)

	r := NewReader([]byte("\x05\x03\x61"))
	want(t, "05 03 61: Byte", r.Byte(), 5)
	want(t, "05 03 61: Text(9)", r.Text(9), "")
	want(t, "05 03 61: Err", r.Err(), api.ErrTrunc)
	want(t, "05 03 61: At", r.At(), 1)
	want(t, "05 03 61: Byte behind", r.Byte(), 0)
	want(t, "05 03 61: Left", r.Left(), 2)
	want(t, "05 03 61: End", r.End(), api.ErrTrunc)

	r = NewReader([]byte("\x80\x00\x01"))
	want(t, "80 00 01: Var", r.Var(), 0)
	r.Fail(api.ErrArg)
	want(t, "80 00 01: Err", r.Err(), api.ErrLong)

	r = NewReader([]byte("\x01\x02"))
	want(t, "01 02: Raw(1)", string(r.Raw(1)), "\x01")
	want(t, "01 02: End", r.End(), api.ErrTail)
	want(t, "01 02: Err", r.Err(), api.OK)
	want(t, "01 02: Text(1)", r.Text(1), "")
	want(t, "01 02: Err behind", r.Err(), api.ErrLimit)
}

// P3.1: each piece, as its bytes.
func TestPiecesAreBytes(t *testing.T) {
	for _, c := range []struct {
		what string
		put  func(w *Writer)
		has  string
	}{
		{"nothing", func(w *Writer) {}, ""},
		{"Byte(0)", func(w *Writer) { w.Byte(0) }, "\x00"},
		{"Byte(255)", func(w *Writer) { w.Byte(255) }, "\xff"},
		{"Var(0)", func(w *Writer) { w.Var(0) }, "\x00"},
		{"Var(300)", func(w *Writer) { w.Var(300) }, "\xac\x02"},
		{"Var(2^64 - 1)", func(w *Writer) { w.Var(math.MaxUint64) }, "\xff\xff\xff\xff\xff\xff\xff\xff\xff\x01"},
		{"Int(0)", func(w *Writer) { w.Int(0) }, "\x00"},
		{"Int(-3)", func(w *Writer) { w.Int(-3) }, "\x05"},
		{"Int(3)", func(w *Writer) { w.Int(3) }, "\x06"},
		{"Int(-2^63)", func(w *Writer) { w.Int(math.MinInt64) }, "\xff\xff\xff\xff\xff\xff\xff\xff\xff\x01"},
		{"Text of nothing", func(w *Writer) { w.Text("") }, "\x00"},
		{"Text(hey)", func(w *Writer) { w.Text("hey") }, "\x03hey"},
		{"Text that is no UTF-8", func(w *Writer) { w.Text("\xff\x00") }, "\x02\xff\x00"},
		{"Text of 128 bytes", func(w *Writer) { w.Text(strings.Repeat("x", 128)) }, "\x80\x01" + strings.Repeat("x", 128)},
		{"Raw(nil)", func(w *Writer) { w.Raw(nil) }, ""},
		{"Raw of no bytes", func(w *Writer) { w.Raw([]byte{}) }, ""},
		{"Raw", func(w *Writer) { w.Raw([]byte{0, 255, 128}) }, "\x00\xff\x80"},
		{"Word(0)", func(w *Writer) { w.Word(0) }, "\x00\x00\x00\x00"},
		{"Word(01020304)", func(w *Writer) { w.Word(0x01020304) }, "\x04\x03\x02\x01"},
		{"Word(FFFEFDFC)", func(w *Writer) { w.Word(0xFFFEFDFC) }, "\xfc\xfd\xfe\xff"},
	} {
		w := NewWriter(1000)
		c.put(w)
		wantWriter(t, c.what, w, c.has, api.OK)
		c.put(w)
		wantWriter(t, c.what+", twice", w, c.has+c.has, api.OK)
	}
}

// P3.1: a limit below 0 is 0; pieces of no bytes fit into it, and no other ones.
func TestLimitsOfNothing(t *testing.T) {
	for _, most := range []int{0, -1, -2, -1000, math.MinInt + 1, math.MinInt} {
		what := fmt.Sprintf("limit %d", most)
		wantWriter(t, what, NewWriter(most), "", api.OK)
		for _, p := range pieces() {
			e := api.ErrLimit
			if p.bytes == "" {
				e = api.OK
			}
			wantWriter(t, what+", "+p.name, written(most, []piece{p}), "", e)
		}
	}
}

// P3.1: a piece that fits just, and one that is a byte too long, of each kind, behind other bytes and alone.
func TestLimitsOfOnePiece(t *testing.T) {
	for _, ahead := range []string{"", "\x00", "ahead"} {
		for _, p := range pieces() {
			size := len(ahead) + len(p.bytes)
			for _, most := range []int{size, size + 1, math.MaxInt} {
				wantWriter(t, p.name, written(most, []piece{pieceOfRaw(ahead), p}), ahead+p.bytes, api.OK)
			}
			for short := 1; short <= len(p.bytes); short++ {
				wantWriter(t, p.name, written(size-short, []piece{pieceOfRaw(ahead), p}), ahead, api.ErrLimit)
			}
		}
	}
}

// P3.1: a writer that is full takes nothing any more, not even what would fit, or has no bytes.
func TestFullStaysFull(t *testing.T) {
	for _, tooLong := range []piece{pieceOfRaw("0123456789"), pieceOfText("0123456789"), pieceOfVar(math.MaxUint64)} {
		for _, p := range pieces() {
			w := written(5, []piece{pieceOfByte(1), tooLong})
			wantWriter(t, "full", w, "\x01", api.ErrLimit)
			for range 3 {
				p.put(w)
				wantWriter(t, "full, and "+p.name, w, "\x01", api.ErrLimit)
			}
		}
	}
	w := written(3, []piece{pieceOfWord(1), pieceOfByte(1), pieceOfByte(2)})
	wantWriter(t, "full from the first piece on", w, "", api.ErrLimit)
}

// P3.1: Done changes nothing; more may be put behind it.
func TestDoneMoreThanOnce(t *testing.T) {
	for _, row := range rows() {
		has := ""
		w := NewWriter(math.MaxInt)
		for _, p := range row {
			wantWriter(t, namesOf(row), w, has, api.OK)
			wantWriter(t, namesOf(row)+", again", w, has, api.OK)
			p.put(w)
			has += p.bytes
		}
		wantWriter(t, namesOf(row)+", at the end", w, has, api.OK)
	}
}

// P3.1: of a writer that is none nothing is put, and Done is ErrNil.
func TestWritersThatAreNone(t *testing.T) {
	for what, w := range map[string]*Writer{"nil": nil, "a zero one": {}, "new": new(Writer)} {
		wantWriter(t, what, w, "", api.ErrNil)
		for _, p := range pieces() {
			p.put(w)
			wantWriter(t, what+", "+p.name, w, "", api.ErrNil)
		}
		if b, _ := w.Done(); len(b) > 0 {
			t.Errorf("%s: Done % x", what, b)
		}
	}
}

// P3.2: of a reader that is none nothing is taken, and it has ErrNil, whatever is asked.
func TestReadersThatAreNone(t *testing.T) {
	for what, r := range map[string]*Reader{"nil": nil, "a zero one": {}, "new": new(Reader)} {
		wantReader(t, what, r, 0, 0, api.ErrNil)
		for _, a := range askings() {
			want(t, what+", "+a.name, a.take(r), a.zero)
			wantReader(t, what+", "+a.name, r, 0, 0, api.ErrNil)
		}
		for _, e := range []api.Errno{api.ErrArg, api.OK, api.ErrTrunc, -1} {
			r.Fail(e)
			wantReader(t, what+", Fail", r, 0, 0, api.ErrNil)
		}
		want(t, what+": Raw", len(r.Raw(0)), 0)
	}
}

// P3.2: a reader of no bytes is one all the same.
func TestReaderOfNothing(t *testing.T) {
	for _, b := range [][]byte{nil, {}} {
		wantReader(t, "nothing", NewReader(b), 0, 0, api.OK)
		for _, c := range []struct {
			name string
			take func(r *Reader) any
			zero any
			e    api.Errno
		}{
			{"Byte", func(r *Reader) any { return r.Byte() }, byte(0), api.ErrTrunc},
			{"Var", func(r *Reader) any { return r.Var() }, uint64(0), api.ErrTrunc},
			{"Int", func(r *Reader) any { return r.Int() }, int64(0), api.ErrTrunc},
			{"Word", func(r *Reader) any { return r.Word() }, uint32(0), api.ErrTrunc},
			{"Text(0)", func(r *Reader) any { return r.Text(0) }, "", api.ErrTrunc},
			{"Text(-1)", func(r *Reader) any { return r.Text(-1) }, "", api.ErrTrunc},
			{"Text(greatest)", func(r *Reader) any { return r.Text(math.MaxInt) }, "", api.ErrTrunc},
			{"Raw(0)", func(r *Reader) any { return string(r.Raw(0)) }, "", api.OK},
			{"Raw(1)", func(r *Reader) any { return string(r.Raw(1)) }, "", api.ErrTrunc},
			{"Raw(-1)", func(r *Reader) any { return string(r.Raw(-1)) }, "", api.ErrRange},
		} {
			r := NewReader(b)
			want(t, c.name, c.take(r), c.zero)
			wantReader(t, c.name, r, 0, 0, c.e)
		}
	}
}

// P3.2: each piece, of just its bytes, and with more bytes behind it; and of one byte less, or any fewer: ErrTrunc.
func TestPiecesAreTaken(t *testing.T) {
	for _, p := range pieces() {
		size := len(p.bytes)
		for _, behind := range []string{"", "\x00", "\xff\x80"} {
			r := NewReader([]byte("\xaa" + p.bytes + behind))
			r.Byte()
			want(t, p.name, p.take(r), p.want)
			wantReader(t, p.name, r, 1+size, len(behind), api.OK)
		}
		for cut := range size {
			r := NewReader([]byte("\xaa" + p.bytes[:cut]))
			r.Byte()
			got := p.take(r)
			if fmt.Sprint(got) != "0" && got != "" {
				t.Errorf("%s of %d bytes: %v", p.name, cut, got)
			}
			wantReader(t, fmt.Sprintf("%s of %d bytes", p.name, cut), r, 1, cut, api.ErrTrunc)
		}
	}
}

// P3.2: words and bytes of all kinds are numbers, the lowest byte first.
func TestWordsAreTakenLowestFirst(t *testing.T) {
	r := NewReader([]byte("\x04\x03\x02\x01\xff\x00\x00\x80\xfe"))
	want(t, "the first word", r.Word(), 0x01020304)
	want(t, "the second word", r.Word(), 0x800000ff)
	want(t, "the byte behind", r.Byte(), 0xfe)
	wantReader(t, "all", r, 9, 0, api.OK)
	for c := range 256 {
		want(t, "Byte", NewReader([]byte{byte(c)}).Byte(), byte(c))
	}
}

// P3.2: numbers have leb's errors.
func TestNumbersHaveErrorsOfLeb(t *testing.T) {
	nine := strings.Repeat("\xff", 9)
	for _, c := range []struct {
		b string
		e api.Errno
	}{
		{"\x80", api.ErrTrunc},
		{nine, api.ErrTrunc},
		{"\x80\x00", api.ErrLong},
		{nine + "\x00", api.ErrLong},
		{nine + "\x02", api.ErrRange},
		{nine + "\x80", api.ErrRange},
	} {
		for _, take := range []func(r *Reader) any{
			func(r *Reader) any { return r.Var() == 0 },
			func(r *Reader) any { return r.Int() == 0 },
			func(r *Reader) any { return r.Text(math.MaxInt) == "" },
			func(r *Reader) any { return r.Text(0) == "" },
			func(r *Reader) any { return r.Text(-1) == "" },
		} {
			r := NewReader([]byte("\x00" + c.b))
			r.Byte()
			want(t, fmt.Sprintf("% x: zero", c.b), take(r), true)
			wantReader(t, fmt.Sprintf("% x", c.b), r, 1, len(c.b), c.e)
		}
	}
}

// P3.2: a text's errors, in their order.
func TestTextsAreTaken(t *testing.T) {
	for _, c := range []struct {
		b    string
		most int
		want string
		at   int
		e    api.Errno
	}{
		{"\x03hey", 3, "hey", 4, api.OK},
		{"\x03hey!", 4, "hey", 4, api.OK},
		{"\x03hey!", math.MaxInt, "hey", 4, api.OK},
		{"\x03hey", 2, "", 0, api.ErrLimit},
		{"\x03hey", 0, "", 0, api.ErrLimit},
		{"\x03hey", -1, "", 0, api.ErrLimit},
		{"\x03hey", math.MinInt, "", 0, api.ErrLimit},
		{"\x03he", 3, "", 0, api.ErrTrunc},
		{"\x03", 3, "", 0, api.ErrTrunc},
		{"\x03he", 2, "", 0, api.ErrLimit},
		{"\x03", -1, "", 0, api.ErrLimit},
		{"\x00", 0, "", 1, api.OK},
		{"\x00x", 5, "", 1, api.OK},
		{"\x00", -1, "", 0, api.ErrLimit},
		{"\x00", math.MinInt, "", 0, api.ErrLimit},
		{"\x80\x01" + strings.Repeat("x", 128), 128, strings.Repeat("x", 128), 130, api.OK},
		{"\x80\x01" + strings.Repeat("x", 128), 127, "", 0, api.ErrLimit},
		{"\x80\x01" + strings.Repeat("x", 127), 128, "", 0, api.ErrTrunc},
		{string(leb.Put(nil, math.MaxInt64)) + "x", math.MaxInt, "", 0, api.ErrTrunc},
		{string(leb.Put(nil, math.MaxInt64-1)) + "x", math.MaxInt, "", 0, api.ErrTrunc},
		{string(leb.Put(nil, 1<<63)) + "x", math.MaxInt, "", 0, api.ErrLimit},
		{string(leb.Put(nil, math.MaxUint64)) + "x", math.MaxInt, "", 0, api.ErrLimit},
		{string(leb.Put(nil, math.MaxUint64)) + "x", -1, "", 0, api.ErrLimit},
		{string(leb.Put(nil, 1<<32+1)) + "x", 1, "", 0, api.ErrLimit},
		{string(leb.Put(nil, 1<<32+1)) + "x", math.MaxInt, "", 0, api.ErrTrunc},
		{"\x81\x00x", 1, "", 0, api.ErrLong},
	} {
		what := fmt.Sprintf("% .8x: Text(%d)", c.b, c.most)
		r := NewReader([]byte(c.b))
		want(t, what, r.Text(c.most), c.want)
		wantReader(t, what, r, c.at, len(c.b)-c.at, c.e)
	}
}

// P3.2: sizes of raw bytes below 0, of all that is left, and of one more.
func TestRawBytesAreTaken(t *testing.T) {
	for _, c := range []struct {
		n    int
		want string
		e    api.Errno
	}{
		{0, "", api.OK}, {1, "a", api.OK}, {2, "ab", api.OK}, {3, "abc", api.OK},
		{4, "", api.ErrTrunc}, {5, "", api.ErrTrunc}, {math.MaxInt32, "", api.ErrTrunc}, {math.MaxInt, "", api.ErrTrunc}, {math.MaxInt - 1, "", api.ErrTrunc},
		{-1, "", api.ErrRange}, {-4, "", api.ErrRange}, {math.MinInt, "", api.ErrRange},
	} {
		what := fmt.Sprintf("Raw(%d)", c.n)
		r := NewReader([]byte("!abc"))
		r.Byte()
		want(t, what, string(r.Raw(c.n)), c.want)
		wantReader(t, what, r, 1+len(c.want), 3-len(c.want), c.e)
	}
}

// P3.2: Fail ahead of an error is the error; with OK there is still none.
func TestFail(t *testing.T) {
	for _, e := range []api.Errno{api.ErrNil, api.ErrArg, api.ErrTrunc, api.ErrLong, api.ErrTail, api.ErrNone, -1, 9999} {
		for _, b := range []string{"", "\x01", "\x01\x02\x03\x04\x05"} {
			r := NewReader([]byte(b))
			r.Fail(api.OK)
			wantReader(t, "Fail(OK)", r, 0, len(b), api.OK)
			r.Fail(e)
			wantReader(t, "Fail", r, 0, len(b), e)
			r.Fail(api.OK)
			r.Fail(api.ErrForm)
			wantReader(t, "Fail behind Fail", r, 0, len(b), e)
			want(t, "Byte behind Fail", r.Byte(), 0)
			wantReader(t, "Byte behind Fail", r, 0, len(b), e)
		}
	}
}

// P3.2: End tells what is left, and leaves the error as it is, so that more can be taken.
func TestEndWithBytesLeft(t *testing.T) {
	b := "\x01\x02\x03"
	r := NewReader([]byte(b))
	for i := range len(b) {
		for range 2 {
			want(t, "End", r.End(), api.ErrTail)
			want(t, "Err behind End", r.Err(), api.OK)
		}
		want(t, "Byte behind End", r.Byte(), b[i])
	}
	for range 2 {
		want(t, "End at the end", r.End(), api.OK)
		want(t, "Err behind End at the end", r.Err(), api.OK)
	}
	r.Byte()
	want(t, "End behind an error", r.End(), api.ErrTrunc)
}

// P3.3: bytes that are handed to a writer stay as they were, and what is changed in them later changes nothing.
func TestWriterKeepsNothing(t *testing.T) {
	b, room := roomy("ab")
	was := bytes.Clone(room)
	for _, most := range []int{100, 5, 1} {
		w := NewWriter(most)
		w.Raw(b)
		first, e := w.Done()
		has := string(first)
		scribble(room)
		wantWriter(t, "behind a change of what was put", w, has, e)
		scribble(room)
		w.Raw(b)
		w.Text("more")
		w.Done()
		if !bytes.Equal(room, was) {
			t.Fatalf("what was put became %q", room)
		}
	}
	w := NewWriter(100)
	w.Raw(b)
	w.Raw(b[:0])
	scribble(b)
	w.Byte('c')
	wantWriter(t, "a byte behind", w, "abc", api.OK)
}

// P3.3: what Done answers is new memory, each time, and is not changed by what is put later.
func TestDoneIsNewMemory(t *testing.T) {
	for size := range 40 {
		w := NewWriter(1000)
		for range size {
			w.Byte('a')
		}
		has := strings.Repeat("a", size)
		first, _ := w.Done()
		second, _ := w.Done()
		scribble(first)
		want(t, "the second answer", string(second), has)
		wantWriter(t, "behind a change of what was answered", w, has, api.OK)
		w.Byte('b')
		w.Text("cd")
		want(t, "the second answer, behind more", string(second), has)
		scribble(second)
		wantWriter(t, "more, behind a change of what was answered", w, has+"b\x02cd", api.OK)
	}
}

// P3.3: bytes that a reader is made of stay as they were, and what is changed in them later changes nothing.
func TestReaderKeepsNothing(t *testing.T) {
	for _, row := range rows() {
		b, room := roomy(bytesOf(row))
		was := bytes.Clone(room)
		r := NewReader(b)
		for _, p := range row {
			p.take(r)
		}
		r.Raw(1)
		if !bytes.Equal(room, was) {
			t.Fatalf("%s: what was read became % x", namesOf(row), room)
		}
		r = NewReader(b)
		scribble(room)
		for _, p := range row {
			want(t, p.name+" behind a change", p.take(r), p.want)
		}
		want(t, "End", r.End(), api.OK)
	}
}

// P3.3: raw bytes that are answered are new memory: a change of them, or of their spare room, changes nothing that is taken later.
func TestRawIsNewMemory(t *testing.T) {
	for size := range 5 {
		b := []byte("abcdefgh")
		r := NewReader(b)
		first := r.Raw(size)
		scribble(first)
		second := r.Raw(3)
		want(t, "the next bytes", string(second), "abcdefgh"[size:size+3])
		scribble(r.Raw(0))
		scribble(first)
		want(t, "the next bytes, later", string(second), "abcdefgh"[size:size+3])
		want(t, "what was handed in", string(b), "abcdefgh")
		want(t, "the rest", string(r.Raw(r.Left())), "abcdefgh"[size+3:])
	}
}

// P3.3, R2: objects share nothing with each other.
func TestObjectsStandApart(t *testing.T) {
	v, w := NewWriter(10), NewWriter(1)
	v.Text("one")
	w.Text("two")
	v.Byte(1)
	wantWriter(t, "the first writer", v, "\x03one\x01", api.OK)
	wantWriter(t, "the second writer", w, "", api.ErrLimit)

	b := []byte("ab")
	q, r := NewReader(b), NewReader(b)
	q.Fail(api.ErrArg)
	want(t, "the second reader", r.Byte(), 'a')
	wantReader(t, "the first reader", q, 0, 2, api.ErrArg)
	wantReader(t, "the second reader", r, 1, 1, api.OK)
}

// P3.4: pieces that are put are taken as they were, in the same order, and then nothing is left.
func TestTakenAsTheyWerePut(t *testing.T) {
	for _, row := range rows() {
		all := bytesOf(row)
		b, e := written(len(all), row).Done()
		if string(b) != all || e != api.OK {
			t.Fatalf("%s: % x, %d", namesOf(row), b, e)
		}
		r := NewReader(b)
		at := 0
		for _, p := range row {
			wantReader(t, namesOf(row), r, at, len(b)-at, api.OK)
			want(t, namesOf(row)+": "+p.name, p.take(r), p.want)
			at += len(p.bytes)
		}
		wantReader(t, namesOf(row)+", at the end", r, at, 0, api.OK)
	}
}

// P3.5: full just if the pieces have more bytes in all than the limit, with the bytes up to the first piece that did not fit.
func TestFullJustIfMoreThanTheLimit(t *testing.T) {
	for _, row := range rows() {
		all := len(bytesOf(row))
		for most := max(0, all-40); most <= all+2; most++ {
			has, e := "", api.OK
			for _, p := range row {
				if len(has)+len(p.bytes) > most {
					e = api.ErrLimit
					break
				}
				has += p.bytes
			}
			if (e == api.ErrLimit) != (all > most) {
				t.Fatalf("limit %d, %s: the test is wrong", most, namesOf(row))
			}
			wantWriter(t, fmt.Sprintf("limit %d, %s", most, namesOf(row)), written(most, row), has, e)
		}
	}
}

// P3.6: behind an error nothing changes, neither the error, nor the place, whatever is asked.
func TestBehindAnErrorNothingChanges(t *testing.T) {
	for _, c := range []struct {
		b     string
		spoil func(r *Reader)
		e     api.Errno
	}{
		{"\x09\x00", func(r *Reader) { r.Text(8) }, api.ErrLimit},
		{"\x01\x02", func(r *Reader) { r.Word() }, api.ErrTrunc},
		{"\x80\x00\x01\x01\x01\x01", func(r *Reader) { r.Var() }, api.ErrLong},
		{"\x80\x00\x01\x01\x01\x01", func(r *Reader) { r.Int() }, api.ErrLong},
		{"\x01x\x02yy\x00\x00", func(r *Reader) { r.Raw(-1) }, api.ErrRange},
		{"\x01x\x02yy\x00\x00", func(r *Reader) { r.Raw(8) }, api.ErrTrunc},
		{"\x01x\x02yy\x00\x00", func(r *Reader) { r.Fail(api.ErrShape) }, api.ErrShape},
		{"\x01x\x02yy\x00\x00", func(r *Reader) { r.Fail(api.ErrTail) }, api.ErrTail},
		{"", func(r *Reader) { r.Byte() }, api.ErrTrunc},
	} {
		r := NewReader([]byte("\x07" + c.b))
		r.Byte()
		c.spoil(r)
		wantReader(t, "behind an error", r, 1, len(c.b), c.e)
		for range 2 {
			for _, a := range askings() {
				want(t, a.name+" behind an error", a.take(r), a.zero)
				wantReader(t, a.name+" behind an error", r, 1, len(c.b), c.e)
			}
			for _, e := range []api.Errno{api.OK, api.ErrArg, api.ErrNil, -1} {
				r.Fail(e)
				wantReader(t, "Fail behind an error", r, 1, len(c.b), c.e)
			}
		}
	}
}

// P3.7: bytes that are cut off are read as they were up to the piece that is cut, and that is ErrTrunc.
func TestCutOff(t *testing.T) {
	for _, row := range rows() {
		all := bytesOf(row)
		for cut := max(0, len(all)-200); cut < len(all); cut++ {
			r := NewReader([]byte(all[:cut]))
			at := 0
			for _, p := range row {
				if at+len(p.bytes) > cut {
					p.take(r)
					break
				}
				want(t, fmt.Sprintf("%s, cut at %d: %s", namesOf(row), cut, p.name), p.take(r), p.want)
				at += len(p.bytes)
			}
			wantReader(t, fmt.Sprintf("%s, cut at %d", namesOf(row), cut), r, at, cut-at, api.ErrTrunc)
		}
	}
}

// wordReader is a reader by the document's words, apart from what the package does.
type wordReader struct {
	b  string
	at int
	e  api.Errno
}

// ask is what is answered, of each of the askings, by its name and number.
func (m *wordReader) ask(name string, n int) any {
	zero := map[string]any{"Byte": byte(0), "Var": uint64(0), "Int": int64(0), "Word": uint32(0), "Text": "", "Raw": ""}[name]
	if m.e != api.OK {
		return zero
	}
	left := m.b[m.at:]
	fail := func(e api.Errno) any { m.e = e; return zero }
	goOn := func(size int, v any) any { m.at += size; return v }
	number, size, e := leb.Get([]byte(left))
	switch {
	case name == "Byte" && len(left) < 1, name == "Word" && len(left) < 4:
		return fail(api.ErrTrunc)
	case name == "Byte":
		return goOn(1, left[0])
	case name == "Word":
		return goOn(4, uint32(left[0])+256*uint32(left[1])+65536*uint32(left[2])+16777216*uint32(left[3]))
	case name == "Raw" && n < 0:
		return fail(api.ErrRange)
	case name == "Raw" && len(left) < n:
		return fail(api.ErrTrunc)
	case name == "Raw":
		return goOn(n, left[:n])
	case e != api.OK:
		return fail(e)
	case name == "Var":
		return goOn(size, number)
	case name == "Int":
		return goOn(size, leb.Zag(number))
	case n < 0 || number > uint64(n):
		return fail(api.ErrLimit)
	case number > uint64(len(left)-size):
		return fail(api.ErrTrunc)
	}
	return goOn(size+int(number), left[size:size+int(number)])
}

// P3.2, P3.6: readers of scattered bytes, asked scattered things, are as the words say.
func TestReaderIsThatOfTheWords(t *testing.T) {
	next := scatter()
	telling := "\x00\x00\x01\x01\x02\x03\x05\x7f\x80\x81\xff"
	good := 0
	for range 20000 {
		b := make([]byte, next()>>30%12)
		for i := range b {
			b[i] = telling[next()>>30%uint64(len(telling))]
		}
		r, m := NewReader(b), &wordReader{b: string(b)}
		for range 6 {
			n := []int{0, 1, 2, 3, 4, 5, 1, 2, math.MaxInt, -1}[next()>>30%10]
			var name string
			var got any
			switch next() >> 30 % 6 {
			case 0:
				name, got = "Byte", r.Byte()
			case 1:
				name, got = "Var", r.Var()
			case 2:
				name, got = "Int", r.Int()
			case 3:
				name, got = "Word", r.Word()
			case 4:
				name, got = "Text", r.Text(n)
			case 5:
				name, got = "Raw", string(r.Raw(n))
			}
			what := fmt.Sprintf("% x: %s %d", b, name, n)
			want(t, what, got, m.ask(name, n))
			wantReader(t, what, r, m.at, len(b)-m.at, m.e)
			if m.e == api.OK {
				good++
			}
		}
	}
	if good < 10000 {
		t.Errorf("only %d pieces were taken", good)
	}
}
