package mask

import (
	"fmt"
	"math/rand/v2"
	"slices"
	"testing"

	"millstream/api"
)

// wordSize is P14.1 of Size: as few bytes as have so many bits.
func wordSize(n int) int {
	if n < 0 || n > 1048576 {
		return 0
	}
	return fewest(n)
}

func fewest(n int) int {
	bytes := 0
	for 8*bytes < n {
		bytes++
	}
	return bytes
}

// values are those of a byte's bits, from the lowest one on.
func values() []int {
	return []int{1, 2, 4, 8, 16, 32, 64, 128}
}

// wordPack is P14.1 of Pack: byte for byte the sum of what its bools are worth.
func wordPack(l []bool) []byte {
	var b []byte
	for len(l) > 0 {
		sum, of := 0, min(8, len(l))
		for place, yes := range l[:of] {
			if yes {
				sum += values()[place]
			}
		}
		b, l = append(b, byte(sum)), l[of:]
	}
	return b
}

// wordCount is P14.1 of Count.
func wordCount(l []bool) int {
	return len(slices.DeleteFunc(slices.Clone(l), func(yes bool) bool { return !yes }))
}

// wordUnpack is P14.2: all bits of the bytes, of which those behind the last one are taken off.
func wordUnpack(b []byte, n int) ([]bool, int, api.Errno) {
	if n < 0 || n > 1048576 {
		return nil, 0, api.ErrRange
	}
	size := fewest(n)
	if len(b) < size {
		return nil, 0, api.ErrTrunc
	}
	l := bitsOf(b[:size])
	if slices.Contains(l[n:], true) {
		return nil, 0, api.ErrBits
	}
	return l[:n], size, api.OK
}

// bitsOf are all bits of bytes, of each from its greatest value on down and then turned round.
func bitsOf(b []byte) []bool {
	var l []bool
	for _, of := range b {
		var bits []bool
		left := int(of)
		for _, value := range []int{128, 64, 32, 16, 8, 4, 2, 1} {
			bits = append(bits, left >= value)
			if left >= value {
				left -= value
			}
		}
		slices.Reverse(bits)
		l = append(l, bits...)
	}
	return l
}

// scatter answers numbers below a limit that lie scattered, the same ones in each run.
func scatter() func(below int) int {
	return rand.New(rand.NewPCG(14, 14)).IntN
}

// scatteredBools are so many, of which one of every seldom is true; seldom 0: none.
func scatteredBools(next func(below int) int, many, seldom int) []bool {
	l := make([]bool, many)
	for i := range l {
		l[i] = seldom > 0 && next(seldom) == 0
	}
	return l
}

// scatteredBytes are so many.
func scatteredBytes(next func(below int) int, many int) []byte {
	b := make([]byte, many)
	for i := range b {
		b[i] = byte(next(256))
	}
	return b
}

// bools are those of a text of t and f.
func bools(text string) []bool {
	var l []bool
	for _, c := range text {
		l = append(l, c == 't')
	}
	return l
}

// toldBools is a list as a text of t and f, a long one its beginning.
func toldBools(l []bool) string {
	text := fmt.Sprintf("(%d) ", len(l))
	for _, yes := range l[:min(len(l), 40)] {
		if yes {
			text += "t"
		} else {
			text += "f"
		}
	}
	return text
}

// toldBytes are bytes as a text, of many the first ones.
func toldBytes(b []byte) string {
	return fmt.Sprintf("(%d) % x", len(b), b[:min(len(b), 10)])
}

func wantPack(t *testing.T, l []bool, want []byte) {
	t.Helper()
	if b := Pack(l); !slices.Equal(b, want) {
		t.Fatalf("Pack of %s: %s, not %s", toldBools(l), toldBytes(b), toldBytes(want))
	}
}

func wantSize(t *testing.T, n, want int) {
	t.Helper()
	if size := Size(n); size != want {
		t.Fatalf("Size of %d: %d, not %d", n, size, want)
	}
}

func wantCount(t *testing.T, l []bool, want int) {
	t.Helper()
	if many := Count(l); many != want {
		t.Fatalf("Count of %s: %d, not %d", toldBools(l), many, want)
	}
}

func wantUnpack(t *testing.T, b []byte, n int, want []bool, wantSize int, wantE api.Errno) {
	t.Helper()
	l, size, e := Unpack(b, n)
	if !slices.Equal(l, want) || size != wantSize || e != wantE {
		t.Fatalf("Unpack of %s, %d: %s, %d, %d, not %s, %d, %d", toldBytes(b), n, toldBools(l), size, e, toldBools(want), wantSize, wantE)
	}
}

// wantUnpackOfTheWords holds Unpack against that of the words, whose error is answered.
func wantUnpackOfTheWords(t *testing.T, b []byte, n int) api.Errno {
	t.Helper()
	l, size, e := wordUnpack(b, n)
	wantUnpack(t, b, n, l, size, e)
	return e
}
