package crc

import (
	"bytes"
	"encoding/binary"
	"hash/crc32"
	"math"
	"math/bits"
	"testing"

	"millstream/api"
)

// wordStep is a step, as the document's section Words says it.
func wordStep(register uint32, bit uint32) uint32 {
	if register%2 != bit {
		return register/2 ^ 0x82F63B78
	}
	return register / 2
}

// wordUpdate goes on from a sum by the words: bit by bit.
func wordUpdate(sum uint32, b []byte) uint32 {
	register := sum ^ 0xFFFFFFFF
	for _, c := range b {
		for place := range 8 {
			register = wordStep(register, uint32(c>>place)%2)
		}
	}
	return register ^ 0xFFFFFFFF
}

// wordJoin is P2.2 by its words: one step after the other, for an n that is small enough.
func wordJoin(a, b uint32, n int) uint32 {
	for range n {
		for range 8 {
			a = wordStep(a, 0)
		}
	}
	return a ^ b
}

// polyJoin works P2.2 out for any n: a step with the bit 0 is, with the bits in the other order, a multiplication by x modulo the polynomial.
func polyJoin(a, b uint32, n int) uint32 {
	power, factor := uint32(1), uint32(1<<8) // 1, and x^8
	for left := uint64(n); left > 0; left /= 2 {
		if left%2 == 1 {
			power = polyTimes(power, factor)
		}
		factor = polyTimes(factor, factor)
	}
	return bits.Reverse32(polyTimes(bits.Reverse32(a), power)) ^ b
}

func polyTimes(a, b uint32) uint32 {
	const poly = 1<<32 | 0x1EDC6F41 // x^32, and the bits of 82F63B78 in the other order
	var product uint64
	for place := range 32 {
		if b>>place&1 == 1 {
			product ^= uint64(a) << place
		}
	}
	for place := 63; place >= 32; place-- {
		if product>>place&1 == 1 {
			product ^= poly << (place - 32)
		}
	}
	return uint32(product)
}

// scatter answers numbers that lie scattered, the same ones in each run.
func scatter() func() uint64 {
	x := uint64(88172645463325252)
	return func() uint64 {
		x ^= x << 13
		x ^= x >> 7
		x ^= x << 17
		return x
	}
}

func scattered(next func() uint64, size int) []byte {
	b := make([]byte, size)
	for i := range b {
		b[i] = byte(next() >> 20)
	}
	return b
}

// texts are nothing, all of one byte, and ones of all sizes up to 70 and of some greater ones.
func texts() [][]byte {
	l := [][]byte{nil, {}, []byte("123456789"), make([]byte, 32), bytes.Repeat([]byte{0xff}, 32)}
	for c := range 256 {
		l = append(l, []byte{byte(c)})
	}
	next := scatter()
	for size := range 70 {
		l = append(l, scattered(next, size), make([]byte, size), bytes.Repeat([]byte{0xff}, size))
	}
	return append(l, scattered(next, 255), scattered(next, 256), scattered(next, 4099))
}

// sums are 0, all bits, each bit alone, all but each bit, and some scattered ones.
func sums() []uint32 {
	l := []uint32{0, math.MaxUint32, 0x82F63B78, 0xE3069283, 5, 7}
	for bit := range 32 {
		l = append(l, 1<<bit, ^uint32(1<<bit))
	}
	next := scatter()
	for range 30 {
		l = append(l, uint32(next()>>16))
	}
	return l
}

func wantJoin(t *testing.T, a, b uint32, n int, want uint32, e api.Errno) {
	t.Helper()
	if got, ge := Join(a, b, n); got != want || ge != e {
		t.Errorf("Join(%08x, %08x, %d): %08x, %d; want %08x, %d", a, b, n, got, ge, want, e)
	}
}

// mustJoin is Join of an n that is not below 0.
func mustJoin(t *testing.T, a, b uint32, n int) uint32 {
	t.Helper()
	sum, e := Join(a, b, n)
	if e != api.OK {
		t.Fatalf("Join(%08x, %08x, %d): error %d", a, b, n, e)
	}
	return sum
}

// P2.1: the chapter's examples, and sums that are known.
func TestSumOfKnownTexts(t *testing.T) {
	rising := make([]byte, 32)
	falling := make([]byte, 32)
	for i := range rising {
		rising[i], falling[i] = byte(i), byte(31-i)
	}
	for _, c := range []struct {
		b    []byte
		want uint32
	}{
		{nil, 0},
		{[]byte{}, 0},
		{[]byte("123456789"), 0xE3069283},
		{[]byte("a"), 0xC1D04330},
		{make([]byte, 32), 0x8A9136AA},
		{bytes.Repeat([]byte{0xff}, 32), 0x62A8AB43},
		{rising, 0x46DD794E},
		{falling, 0x113FDB5C},
	} {
		if got := Sum(c.b); got != c.want {
			t.Errorf("Sum(% x): %08x; want %08x", c.b, got, c.want)
		}
	}
	sum := Update(0, []byte{0x31})
	if sum = Update(sum, []byte("23456789")); sum != 0xE3069283 {
		t.Errorf("in two pieces: %08x; want e3069283", sum)
	}
}

// P2.1: sums are those that the words make, bit by bit, and those of another program.
func TestSumIsThatOfTheWords(t *testing.T) {
	castagnoli := crc32.MakeTable(crc32.Castagnoli)
	for _, b := range texts() {
		want := wordUpdate(0, b)
		if got := Sum(b); got != want {
			t.Errorf("Sum(% x): %08x; want %08x", b, got, want)
		}
		if other := crc32.Checksum(b, castagnoli); other != want {
			t.Errorf("the words make %08x of % x, another program %08x", want, b, other)
		}
	}
}

// P2.1: going on from all kinds of sums.
func TestUpdateIsThatOfTheWords(t *testing.T) {
	for _, sum := range sums() {
		for _, b := range texts()[:300] {
			if got, want := Update(sum, b), wordUpdate(sum, b); got != want {
				t.Errorf("Update(%08x, % x): %08x; want %08x", sum, b, got, want)
			}
		}
		for _, b := range [][]byte{nil, {}} {
			if got := Update(sum, b); got != sum {
				t.Errorf("Update(%08x, nothing): %08x", sum, got)
			}
		}
	}
}

// P2.1: b is only read, its spare room neither written nor looked at.
func TestBytesStayAsTheyWere(t *testing.T) {
	for used := range 27 {
		room := []byte("abcdefghijklmnopqrstuvwxyz")
		was := bytes.Clone(room)
		first, second := Sum(room[:used]), Update(7, room[:used])
		if !bytes.Equal(room, was) {
			t.Fatalf("with %d bytes used, the room became %q", used, room)
		}
		for i := used; i < len(room); i++ {
			room[i] = '!'
		}
		if Sum(room[:used]) != first || Update(7, room[:used]) != second {
			t.Errorf("with %d bytes used, the sum hangs on the spare room", used)
		}
	}
}

// P2.2: the chapter's examples, and an n below 0.
func TestJoinOfKnownSums(t *testing.T) {
	wantJoin(t, 5, 7, 0, 2, api.OK)
	wantJoin(t, 0, 7, 9, 7, api.OK)
	wantJoin(t, 1, 0, -1, 0, api.ErrRange)
	wantJoin(t, 0x82F63B78, 0, 0, 0x82F63B78, api.OK)
	wantJoin(t, 1, 0, 1, wordJoin(1, 0, 1), api.OK)
	for _, n := range []int{-1, -2, -8, -9, math.MinInt32, math.MinInt + 1, math.MinInt} {
		for _, a := range sums() {
			wantJoin(t, a, ^a, n, 0, api.ErrRange)
			wantJoin(t, a, 0, n, 0, api.ErrRange)
		}
	}
}

// P2.2: step by step, for each n up to 300 and some more.
func TestJoinIsThatOfTheWords(t *testing.T) {
	for _, a := range sums() {
		behind := a
		for n := range 300 {
			wantJoin(t, a, 0, n, behind, api.OK)
			wantJoin(t, a, 0xE3069283, n, behind^0xE3069283, api.OK)
			behind = wordJoin(behind, 0, 1)
		}
		for _, b := range []uint32{0, 1, 1 << 31, math.MaxUint32, a} {
			wantJoin(t, a, b, 1, wordJoin(a, b, 1), api.OK)
			wantJoin(t, a, b, 1025, wordJoin(a, b, 1025), api.OK)
			wantJoin(t, a, b, 4096, wordJoin(a, b, 4096), api.OK)
		}
	}
}

// P2.2: however great n is. The other way to work it out is held against the words first.
func TestJoinOverGreatNumbers(t *testing.T) {
	for _, a := range sums() {
		for _, n := range []int{0, 1, 2, 3, 255, 256, 1000} {
			if got, want := polyJoin(a, 9, n), wordJoin(a, 9, n); got != want {
				t.Fatalf("polyJoin(%08x, 9, %d): %08x; want %08x", a, n, got, want)
			}
		}
	}
	great := []int{math.MaxInt, math.MaxInt - 1, math.MaxInt - 2, math.MaxInt / 3, math.MaxInt32, math.MaxInt32 - 1}
	for shift := range bits.UintSize - 1 {
		great = append(great, 1<<shift, 1<<shift-1)
	}
	next := scatter()
	for range 50 {
		great = append(great, int(next()>>1)&math.MaxInt)
	}
	for _, a := range sums() {
		for _, n := range great {
			wantJoin(t, a, 0, n, polyJoin(a, 0, n), api.OK)
			wantJoin(t, a, 0x9ABCDEF0, n, polyJoin(a, 0x9ABCDEF0, n), api.OK)
		}
	}
}

// P2.3: in two pieces, cut everywhere, byte by byte, and with nothing in between.
func TestUpdateInPieces(t *testing.T) {
	b := scattered(scatter(), 67)
	for _, sum := range sums() {
		whole := Update(sum, b)
		for cut := range len(b) + 1 {
			if got := Update(Update(sum, b[:cut]), b[cut:]); got != whole {
				t.Errorf("from %08x, cut at %d: %08x; want %08x", sum, cut, got, whole)
			}
		}
		single := sum
		for i := range b {
			single = Update(Update(single, nil), b[i:i+1])
		}
		if single != whole {
			t.Errorf("from %08x, byte by byte: %08x; want %08x", sum, single, whole)
		}
	}
	if got := Update(Sum(b[:20]), b[20:]); got != Sum(b) {
		t.Errorf("from the sum of a beginning: %08x; want %08x", got, Sum(b))
	}
}

// P2.4: Join of the sums of two texts is the sum of both, one behind the other.
func TestJoinOfTwoTexts(t *testing.T) {
	next := scatter()
	for first := range 40 {
		for second := range 40 {
			a, b := scattered(next, first), scattered(next, second)
			both := append(bytes.Clone(a), b...)
			wantJoin(t, Sum(a), Sum(b), second, Sum(both), api.OK)
		}
	}
	a, b := scattered(next, 5), scattered(next, 100000)
	wantJoin(t, Sum(a), Sum(b), len(b), Sum(append(bytes.Clone(a), b...)), api.OK)
	wantJoin(t, Sum(b), Sum(a), len(a), Sum(append(bytes.Clone(b), a...)), api.OK)
}

// P2.4: over n, and then over m, is over n + m.
func TestJoinsBehindEachOther(t *testing.T) {
	numbers := []int{0, 1, 2, 3, 7, 8, 64, 255, 1000, math.MaxInt32 / 2, math.MaxInt / 2}
	for _, a := range sums() {
		for _, n := range numbers {
			for _, m := range numbers {
				wantJoin(t, mustJoin(t, a, 0, n), 0, m, mustJoin(t, a, 0, n+m), api.OK)
				// Two texts behind one: it does not matter which two are joined first.
				tail := mustJoin(t, 5, 7, m)
				wantJoin(t, mustJoin(t, a, 5, n), 7, m, mustJoin(t, a, tail, n+m), api.OK)
			}
		}
		wantJoin(t, mustJoin(t, a, 0, math.MaxInt-1), 0, 1, mustJoin(t, a, 0, math.MaxInt), api.OK)
		wantJoin(t, mustJoin(t, a, 0, 1), 0, math.MaxInt-1, mustJoin(t, a, 0, math.MaxInt), api.OK)
	}
}

// P2.5: three texts of one length, and the one that has a bit where one or all three have it.
func TestSumsOfTextsLaidOverEachOther(t *testing.T) {
	next := scatter()
	for size := range 80 {
		for range 10 {
			a, b, c := scattered(next, size), scattered(next, size), scattered(next, size)
			laid := make([]byte, size)
			for i := range laid {
				// By the words: one or all three, so an odd number of them.
				for place := range 8 {
					if (a[i]>>place&1+b[i]>>place&1+c[i]>>place&1)%2 == 1 {
						laid[i] |= 1 << place
					}
				}
			}
			if got, want := Sum(laid), Sum(a)^Sum(b)^Sum(c); got != want {
				t.Errorf("of % x, % x, % x: %08x; want %08x", a, b, c, got, want)
			}
		}
	}
}

// fits tells whether bytes end with the sum of those ahead, as a sum's bytes: four, the lowest first.
func fits(b []byte) bool {
	cut := len(b) - 4
	return binary.LittleEndian.Uint32(b[cut:]) == Sum(b[:cut])
}

// turned is b with those bits turned that the pattern has, its lowest bit laid on the bit at the place; of each byte the lowest bit is first.
func turned(b []byte, place int, pattern uint32) []byte {
	spoilt := bytes.Clone(b)
	for i := range 32 {
		if pattern>>i&1 == 1 {
			spoilt[(place+i)/8] ^= 1 << ((place + i) % 8)
		}
	}
	return spoilt
}

// patterns are turns of at least one bit among 32, the lowest one among them: one bit, each two, all bits up to one, the bits that a step turns, scattered ones.
func patterns() []uint32 {
	l := []uint32{1, math.MaxUint32, 0x82F63B78 | 1, bits.Reverse32(0x82F63B78) | 1, 0x1EDC6F41, 0x05EC76F1}
	for bit := 1; bit < 32; bit++ {
		l = append(l, 1|1<<bit, 1<<bit-1)
	}
	next := scatter()
	for i := range 200 {
		l = append(l, 1|uint32(next()>>16)>>(i%32))
	}
	return l
}

// P2.6: bits turned within 32 in a row: in the bytes, in the sum's bytes, and where the two meet.
func TestTurnedBitsAreTold(t *testing.T) {
	next := scatter()
	for _, size := range []int{0, 1, 2, 3, 4, 5, 9, 33, 64} {
		b := scattered(next, size)
		whole := binary.LittleEndian.AppendUint32(bytes.Clone(b), Sum(b))
		if !fits(whole) {
			t.Fatalf("% x does not fit as it is", whole)
		}
		told := 0
		for place := range len(whole) * 8 {
			for _, pattern := range patterns() {
				if place+bits.Len32(pattern) > len(whole)*8 {
					continue
				}
				told++
				if spoilt := turned(whole, place, pattern); fits(spoilt) {
					t.Errorf("% x, turned at %d by %08x, fits", whole, place, pattern)
				}
			}
		}
		if told == 0 {
			t.Errorf("of %d bytes nothing was turned", size)
		}
	}
}

// P2.6: of a few bytes, all the turns there are within 16 in a row, at each place.
func TestAllShortTurnsAreTold(t *testing.T) {
	b := []byte("mill")
	whole := binary.LittleEndian.AppendUint32(bytes.Clone(b), Sum(b))
	for place := range len(whole) * 8 {
		room := min(16, len(whole)*8-place)
		for pattern := uint32(1); pattern < 1<<room; pattern += 2 {
			if spoilt := turned(whole, place, pattern); fits(spoilt) {
				t.Fatalf("% x, turned at %d by %04x, fits", whole, place, pattern)
			}
		}
	}
}
