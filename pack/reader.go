package pack

import (
	"bytes"

	"millstream/api"
	"millstream/leb"
)

// Reader takes pieces.
type Reader struct {
	held
	at int
}

// NewReader makes one of bytes.
func NewReader(b []byte) *Reader {
	return &Reader{held: held{made: true, bytes: bytes.Clone(b)}}
}

// Byte takes a byte.
func (r *Reader) Byte() byte {
	return take(r, func(rest []byte) (byte, int, api.Errno) {
		if len(rest) == 0 {
			return 0, 0, api.ErrTrunc
		}
		return rest[0], 1, api.OK
	})
}

// Var takes a number.
func (r *Reader) Var() uint64 {
	return take(r, func(rest []byte) (uint64, int, api.Errno) {
		return leb.Get(rest)
	})
}

// Int takes a number with a sign.
func (r *Reader) Int() int64 {
	return take(r, func(rest []byte) (int64, int, api.Errno) {
		return leb.GetInt(rest)
	})
}

// Text takes a text of a limit.
func (r *Reader) Text(most int) string {
	return take(r, func(rest []byte) (string, int, api.Errno) {
		n, size, e := leb.Get(rest)
		if e != api.OK {
			return "", 0, e
		}
		if most < 0 || n > uint64(most) {
			return "", 0, api.ErrLimit
		}
		if n > uint64(len(rest)-size) {
			return "", 0, api.ErrTrunc
		}
		end := size + int(n)
		return string(rest[size:end]), end, api.OK
	})
}

// Raw takes so many bytes as they are.
func (r *Reader) Raw(n int) []byte {
	return take(r, func(rest []byte) ([]byte, int, api.Errno) {
		if n < 0 {
			return nil, 0, api.ErrRange
		}
		if n > len(rest) {
			return nil, 0, api.ErrTrunc
		}
		return bytes.Clone(rest[:n]), n, api.OK
	})
}

// Word takes four bytes, the lowest one first.
func (r *Reader) Word() uint32 {
	return take(r, func(rest []byte) (uint32, int, api.Errno) {
		if len(rest) < wordSize {
			return 0, 0, api.ErrTrunc
		}
		var n uint32
		for i := range wordSize {
			n |= uint32(rest[i]) << (8 * i)
		}
		return n, wordSize, api.OK
	})
}

// Left is how many bytes stand from its place on.
func (r *Reader) Left() int {
	if r == nil {
		return 0
	}
	return len(r.bytes) - r.at
}

// At is its place.
func (r *Reader) At() int {
	if r == nil {
		return 0
	}
	return r.at
}

// Fail gives it an error, if it has none.
func (r *Reader) Fail(e api.Errno) {
	if r != nil {
		r.fail(e)
	}
}

// Err is its error.
func (r *Reader) Err() api.Errno {
	if r == nil {
		return api.ErrNil
	}
	return r.trouble()
}

// End tells whether all was taken.
func (r *Reader) End() api.Errno {
	if e := r.Err(); e != api.OK {
		return e
	}
	if r.Left() > 0 {
		return api.ErrTail
	}
	return api.OK
}

// take takes the piece that find finds at the beginning of what is left.
func take[T any](r *Reader, find func(rest []byte) (piece T, size int, e api.Errno)) T {
	var nothing T
	if r.Err() != api.OK {
		return nothing
	}
	piece, size, e := find(r.bytes[r.at:])
	if e != api.OK {
		r.fail(e)
		return nothing
	}
	r.at += size
	return piece
}
