package leb

import (
	"bytes"
	"math"
	"math/big"
	"slices"
	"testing"

	"millstream/api"
)

// ends are the numbers at which the count of bytes changes, their neighbours, powers of two, and some scattered ones; rising.
func ends() []uint64 {
	seen := map[uint64]bool{}
	for shift := range 64 {
		for _, d := range []uint64{0, 1, 2, math.MaxUint64} {
			seen[uint64(1)<<shift+d] = true
			seen[-(uint64(1)<<shift + d)] = true
		}
	}
	for n := range uint64(300) {
		seen[n] = true
	}
	x := uint64(88172645463325252)
	for i := range 2000 {
		x ^= x << 13
		x ^= x >> 7
		x ^= x << 17
		seen[x>>(i%64)] = true
	}
	var l []uint64
	for n := range seen {
		l = append(l, n)
	}
	slices.Sort(l)
	return l
}

func signedEnds() []int64 {
	l := []int64{math.MinInt64, math.MinInt64 + 1, -65, -64, -3, -2, -1, 0, 1, 2, 63, 64, math.MaxInt64 - 1, math.MaxInt64}
	for _, u := range ends() {
		l = append(l, int64(u))
	}
	return l
}

// wordBytes are a number's bytes as the document's section Words says them: worked out by division, apart from what the package does.
func wordBytes(n uint64) []byte {
	var b []byte
	for n >= 128 {
		b = append(b, byte(128+n%128))
		n /= 128
	}
	return append(b, byte(n))
}

// wordZig is the zigzag by its words, in numbers that can't overflow.
func wordZig(n int64) uint64 {
	twice := new(big.Int).Mul(big.NewInt(2), big.NewInt(n))
	if n < 0 {
		twice.Neg(twice).Sub(twice, big.NewInt(1))
	}
	return twice.Uint64()
}

// wordGet is P1.2, sentence by sentence.
func wordGet(b []byte) (uint64, int, api.Errno) {
	n := new(big.Int)
	for i := 0; ; i++ {
		if i >= len(b) {
			return 0, 0, api.ErrTrunc
		}
		if i == 9 && b[i] > 1 {
			return 0, 0, api.ErrRange
		}
		if b[i] == 0 && i != 0 {
			return 0, 0, api.ErrLong
		}
		low := new(big.Int).SetUint64(uint64(b[i] % 128))
		n.Add(n, low.Lsh(low, uint(7*i)))
		if b[i] < 128 {
			return n.Uint64(), i + 1, api.OK
		}
	}
}

func wantGet(t *testing.T, b []byte, n uint64, size int, e api.Errno) {
	t.Helper()
	gn, gs, ge := Get(b)
	if gn != n || gs != size || ge != e {
		t.Errorf("Get(% x): %d, %d, %d; want %d, %d, %d", b, gn, gs, ge, n, size, e)
	}
}

func wantGetInt(t *testing.T, b []byte, n int64, size int, e api.Errno) {
	t.Helper()
	gn, gs, ge := GetInt(b)
	if gn != n || gs != size || ge != e {
		t.Errorf("GetInt(% x): %d, %d, %d; want %d, %d, %d", b, gn, gs, ge, n, size, e)
	}
}

// eachInput hands over many texts of bytes: all of at most two, those of up to five with bytes that matter, and those round the tenth byte.
func eachInput(do func(b []byte)) {
	do(nil)
	do([]byte{})
	for x := range 256 {
		do([]byte{byte(x)})
		for y := range 256 {
			do([]byte{byte(x), byte(y)})
		}
	}
	telling := []byte{0x00, 0x01, 0x02, 0x7f, 0x80, 0x81, 0xff}
	var grow func(b []byte, left int)
	grow = func(b []byte, left int) {
		do(b)
		if left == 0 {
			return
		}
		for _, c := range telling {
			grow(append(b[:len(b):len(b)], c), left-1)
		}
	}
	grow(nil, 5)
	for _, more := range []byte{0x80, 0x81, 0xff} {
		for size := range 10 {
			grow(bytes.Repeat([]byte{more}, size), 3)
		}
		for last := range 256 {
			tenth := append(bytes.Repeat([]byte{more}, 9), byte(last))
			do(tenth)
			do(append(tenth, 0x00))
			do(append(tenth[:10:10], 0xff, 0x01))
			for at := range 9 {
				early := bytes.Clone(tenth)
				early[at] = 0
				do(early)
			}
		}
	}
}

// P1.1: the chapter's examples, and the ends.
func TestPutWrites(t *testing.T) {
	for _, c := range []struct {
		b    string
		n    uint64
		want string
	}{
		{"\xff", 300, "\xff\xac\x02"},
		{"", 0, "\x00"},
		{"", 1, "\x01"},
		{"", 127, "\x7f"},
		{"", 128, "\x80\x01"},
		{"ab", 16383, "ab\xff\x7f"},
		{"ab", 16384, "ab\x80\x80\x01"},
		{"", 1 << 63, "\x80\x80\x80\x80\x80\x80\x80\x80\x80\x01"},
		{"", 1<<63 - 1, "\xff\xff\xff\xff\xff\xff\xff\xff\x7f"},
		{"\x80", math.MaxUint64, "\x80\xff\xff\xff\xff\xff\xff\xff\xff\xff\x01"},
	} {
		if got := Put([]byte(c.b), c.n); string(got) != c.want {
			t.Errorf("Put(% x, %d): % x; want % x", c.b, c.n, got, c.want)
		}
	}
	for _, n := range ends() {
		if got := Put(nil, n); !bytes.Equal(got, wordBytes(n)) {
			t.Errorf("Put(nothing, %d): % x; want % x", n, got, wordBytes(n))
		}
	}
}

// P1.1
func TestSize(t *testing.T) {
	for _, c := range []struct {
		n    uint64
		want int
	}{{0, 1}, {1, 1}, {127, 1}, {128, 2}, {300, 2}, {16383, 2}, {16384, 3}, {1<<63 - 1, 9}, {1 << 63, 10}, {math.MaxUint64, 10}} {
		if got := Size(c.n); got != c.want {
			t.Errorf("Size(%d): %d; want %d", c.n, got, c.want)
		}
	}
	for _, n := range ends() {
		if got := Size(n); got != len(wordBytes(n)) {
			t.Errorf("Size(%d): %d; want %d", n, got, len(wordBytes(n)))
		}
	}
}

// P1.1
func TestZigAndZag(t *testing.T) {
	for _, c := range []struct {
		n int64
		u uint64
	}{
		{0, 0}, {-1, 1}, {1, 2}, {-2, 3}, {2, 4}, {-3, 5}, {-64, 127}, {64, 128},
		{math.MaxInt64, math.MaxUint64 - 1}, {math.MinInt64, math.MaxUint64}, {math.MinInt64 + 1, math.MaxUint64 - 2},
	} {
		if got := Zig(c.n); got != c.u {
			t.Errorf("Zig(%d): %d; want %d", c.n, got, c.u)
		}
		if got := Zag(c.u); got != c.n {
			t.Errorf("Zag(%d): %d; want %d", c.u, got, c.n)
		}
	}
	for _, n := range signedEnds() {
		if got := Zig(n); got != wordZig(n) {
			t.Errorf("Zig(%d): %d; want %d", n, got, wordZig(n))
		}
		if got := Zag(wordZig(n)); got != n {
			t.Errorf("Zag(%d): %d; want %d", wordZig(n), got, n)
		}
	}
}

// P1.1
func TestPutInt(t *testing.T) {
	for _, c := range []struct {
		b    string
		n    int64
		want string
	}{
		{"", -3, "\x05"},
		{"", 0, "\x00"},
		{"", -1, "\x01"},
		{"", -64, "\x7f"},
		{"x", 64, "x\x80\x01"},
		{"", math.MaxInt64, "\xfe\xff\xff\xff\xff\xff\xff\xff\xff\x01"},
		{"", math.MinInt64, "\xff\xff\xff\xff\xff\xff\xff\xff\xff\x01"},
	} {
		if got := PutInt([]byte(c.b), c.n); string(got) != c.want {
			t.Errorf("PutInt(% x, %d): % x; want % x", c.b, c.n, got, c.want)
		}
	}
	for _, n := range signedEnds() {
		want := append([]byte("ab"), wordBytes(wordZig(n))...)
		if got := PutInt([]byte("ab"), n); !bytes.Equal(got, want) {
			t.Errorf("PutInt(ab, %d): % x; want % x", n, got, want)
		}
	}
}

// P1.2: the chapter's examples, and what may be wrong, in the order in which it is looked for.
func TestGetReads(t *testing.T) {
	nine := "\xff\xff\xff\xff\xff\xff\xff\xff\xff"
	for _, c := range []struct {
		b    string
		n    uint64
		size int
		e    api.Errno
	}{
		{"\xac\x02\x07", 300, 2, api.OK},
		{"\x00", 0, 1, api.OK},
		{"\x00\x00", 0, 1, api.OK},
		{"\x7f\xff", 127, 1, api.OK},
		{"\x80\x01", 128, 2, api.OK},
		{"\x80\x80\x80\x80\x80\x80\x80\x80\x80\x01", 1 << 63, 10, api.OK},
		{nine + "\x01", math.MaxUint64, 10, api.OK},
		{nine + "\x01\xff", math.MaxUint64, 10, api.OK},

		{"", 0, 0, api.ErrTrunc},
		{"\x80", 0, 0, api.ErrTrunc},
		{"\xff\xff", 0, 0, api.ErrTrunc},
		{nine, 0, 0, api.ErrTrunc},

		{"\x80\x00", 0, 0, api.ErrLong},
		{"\x81\x80\x00", 0, 0, api.ErrLong},
		{nine + "\x00", 0, 0, api.ErrLong},
		{"\xff\x00" + nine + nine, 0, 0, api.ErrLong},

		{nine + "\x02", 0, 0, api.ErrRange},
		{nine + "\x7f", 0, 0, api.ErrRange},
		{nine + "\x80", 0, 0, api.ErrRange},
		{nine + "\x81", 0, 0, api.ErrRange},
		{nine + "\x80\x00", 0, 0, api.ErrRange},
		{nine + "\xff", 0, 0, api.ErrRange},
	} {
		wantGet(t, []byte(c.b), c.n, c.size, c.e)
	}
	eachInput(func(b []byte) {
		n, size, e := wordGet(b)
		wantGet(t, b, n, size, e)
	})
}

// P1.2
func TestGetIntReads(t *testing.T) {
	for _, c := range []struct {
		b    string
		n    int64
		size int
		e    api.Errno
	}{
		{"\x05", -3, 1, api.OK},
		{"\x00\x80", 0, 1, api.OK},
		{"\x01", -1, 1, api.OK},
		{"\xff\xff\xff\xff\xff\xff\xff\xff\xff\x01", math.MinInt64, 10, api.OK},
		{"\xfe\xff\xff\xff\xff\xff\xff\xff\xff\x01\x09", math.MaxInt64, 10, api.OK},
		{"", 0, 0, api.ErrTrunc},
		{"\x85", 0, 0, api.ErrTrunc},
		{"\x85\x00", 0, 0, api.ErrLong},
		{"\xff\xff\xff\xff\xff\xff\xff\xff\xff\x02", 0, 0, api.ErrRange},
	} {
		wantGetInt(t, []byte(c.b), c.n, c.size, c.e)
	}
	eachInput(func(b []byte) {
		u, size, e := wordGet(b)
		wantGetInt(t, b, Zag(u), size, e)
	})
}

// P1.3: what is handed in stays as it was, its spare room too.
func TestPutLeavesWhatIsHandedIn(t *testing.T) {
	for _, put := range []func(b []byte) []byte{
		func(b []byte) []byte { return Put(b, 1<<40) },
		func(b []byte) []byte { return Put(b, 0) },
		func(b []byte) []byte { return PutInt(b, -1<<40) },
		func(b []byte) []byte { return PutInt(b, 0) },
	} {
		for used := range 9 {
			room := []byte("abcdefghijklmnopqrstuvwxyz")
			was := bytes.Clone(room)
			first := put(room[:used])
			if !bytes.Equal(room, was) {
				t.Fatalf("with %d bytes used, the room became %q", used, room)
			}
			kept := bytes.Clone(first)
			second := put(room[:used])
			scribble(second)
			if !bytes.Equal(room, was) || !bytes.Equal(first, kept) {
				t.Fatalf("with %d bytes used, an answer shares memory", used)
			}
			scribble(room)
			if !bytes.Equal(first, kept) {
				t.Fatalf("with %d bytes used, the answer hangs on what was handed in", used)
			}
		}
	}
}

// P1.3: answers to a list without elements are new, too.
func TestPutOfNothingIsNew(t *testing.T) {
	for _, b := range [][]byte{nil, {}} {
		first, second := Put(b, 5), PutInt(b, 5)
		scribble(first)
		if !bytes.Equal(second, []byte{10}) || !bytes.Equal(Put(b, 5), []byte{5}) {
			t.Errorf("answers share memory: % x", second)
		}
	}
}

// P1.3
func TestGetOnlyReads(t *testing.T) {
	eachInput(func(b []byte) {
		was := bytes.Clone(b[:cap(b)])
		Get(b)
		GetInt(b)
		if !bytes.Equal(b[:cap(b)], was) {
			t.Errorf("% x became % x", was, b[:cap(b)])
		}
	})
}

// P1.4: what Put writes, Get reads as it was, whatever stands behind it.
func TestGetReadsWhatPutWrites(t *testing.T) {
	behind := []string{"", "\x00", "\x01", "\x7f", "\x80", "\xff\xff\xff\xff\xff\xff\xff\xff\xff\xff\xff"}
	for _, n := range ends() {
		for _, tail := range behind {
			b := Put(nil, n)
			wantGet(t, append(b, tail...), n, len(b), api.OK)
			b = PutInt(nil, int64(n))
			wantGetInt(t, append(b, tail...), int64(n), len(b), api.OK)
		}
		b := Put(Put([]byte("head"), n), ^n)[len("head"):]
		wantGet(t, b, n, Size(n), api.OK)
		wantGet(t, b[Size(n):], ^n, Size(^n), api.OK)
	}
}

// P1.5: Get takes nothing but what Put writes.
func TestGetTakesOneForm(t *testing.T) {
	taken := 0
	eachInput(func(b []byte) {
		if n, size, e := Get(b); e == api.OK {
			taken++
			if size > len(b) || !bytes.Equal(b[:size], Put(nil, n)) {
				t.Errorf("Get(% x): %d, %d; but Put writes % x", b, n, size, Put(nil, n))
			}
		}
		if n, size, e := GetInt(b); e == api.OK {
			if size > len(b) || !bytes.Equal(b[:size], PutInt(nil, n)) {
				t.Errorf("GetInt(% x): %d, %d; but PutInt writes % x", b, n, size, PutInt(nil, n))
			}
		}
	})
	if taken == 0 {
		t.Error("Get took nothing")
	}
}

// P1.6: no number's bytes begin another one's; a greater number has not fewer bytes.
func TestBytesOfNumbersStandApart(t *testing.T) {
	l := ends()
	for i, n := range l {
		if i > 0 && Size(n) < Size(l[i-1]) {
			t.Errorf("%d has fewer bytes than %d", n, l[i-1])
		}
		b := Put(nil, n)
		if i > 0 && len(b) < len(Put(nil, l[i-1])) {
			t.Errorf("Put writes fewer bytes of %d than of %d", n, l[i-1])
		}
		for cut := range len(b) {
			wantGet(t, b[:cut], 0, 0, api.ErrTrunc)
		}
	}
	var all [][]byte
	for _, n := range l {
		all = append(all, Put(nil, n))
	}
	// In the order of bytes a text stands right ahead of those that it begins.
	slices.SortFunc(all, bytes.Compare)
	for i := 1; i < len(all); i++ {
		if bytes.HasPrefix(all[i], all[i-1]) {
			t.Errorf("% x begins % x", all[i-1], all[i])
		}
	}
}

// P1.7: Zag takes back what Zig makes, and Zig what Zag makes.
func TestZigAndZagTakeBack(t *testing.T) {
	for _, n := range signedEnds() {
		if got := Zag(Zig(n)); got != n {
			t.Errorf("Zag(Zig(%d)): %d", n, got)
		}
	}
	for _, u := range ends() {
		if got := Zig(Zag(u)); got != u {
			t.Errorf("Zig(Zag(%d)): %d", u, got)
		}
	}
}

// scribble writes over all of a list's memory, its spare room too.
func scribble(b []byte) {
	b = b[:cap(b)]
	for i := range b {
		b[i] = ^b[i]
	}
}
