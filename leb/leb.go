// Package leb is layer 1: see shared/doc/01-leb.md.
package leb

import (
	"math/bits"

	"millstream/api"
)

const (
	digitBits = 7    // bits of a number that one byte holds
	digitMask = 0x7f // those bits
	moreBit   = 0x80 // set in each byte but the last one
	maxSize   = 10   // bytes of the greatest number
	maxTop    = 1    // nine bytes hold 63 bits, so one bit is left for the tenth
)

// Put writes a number behind bytes.
func Put(b []byte, n uint64) []byte {
	var digits [maxSize]byte
	size := Size(n)
	for i := range size {
		digits[i] = byte(n>>(digitBits*i)) | moreBit
	}
	digits[size-1] &^= moreBit
	// Without spare room append has to take new memory, and can't write into the caller's.
	return append(b[:len(b):len(b)], digits[:size]...)
}

// Size is how many bytes a number has.
func Size(n uint64) int {
	// 0 has a byte too, as if it had one bit.
	return (bits.Len64(n|1) + digitBits - 1) / digitBits
}

// Get reads a number.
func Get(b []byte) (n uint64, size int, e api.Errno) {
	// No eleventh byte is ever looked at: a tenth that has its highest bit set is out of range.
	for i := range len(b) {
		digit := b[i]
		if i == maxSize-1 && digit > maxTop {
			return 0, 0, api.ErrRange
		}
		if i > 0 && digit == 0 {
			return 0, 0, api.ErrLong
		}
		n |= uint64(digit&digitMask) << (digitBits * i)
		if digit&moreBit == 0 {
			return n, i + 1, api.OK
		}
	}
	return 0, 0, api.ErrTrunc
}

// Zig is the zigzag of a number.
func Zig(n int64) uint64 {
	// The sign, spread over all bits, turns 2 n into -2 n - 1, and nothing overflows at -2^63.
	return uint64(n)<<1 ^ uint64(n>>63)
}

// Zag is the number of a zigzag.
func Zag(u uint64) int64 {
	return int64(u>>1) ^ -int64(u&1)
}

// PutInt writes a number with a sign.
func PutInt(b []byte, n int64) []byte {
	return Put(b, Zig(n))
}

// GetInt reads one.
func GetInt(b []byte) (n int64, size int, e api.Errno) {
	u, size, e := Get(b)
	if e != api.OK {
		return 0, 0, e
	}
	return Zag(u), size, api.OK
}
