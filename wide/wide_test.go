package wide

import (
	"math"
	"math/big"
	"math/rand/v2"
	"slices"
	"testing"

	"millstream/api"
)

const (
	least    = math.MinInt64
	greatest = math.MaxInt64
	ones     = math.MaxUint64
	top      = 1 << 63
)

// power is 2^n.
func power(n uint) *big.Int {
	return new(big.Int).Lsh(big.NewInt(1), n)
}

// wordValue is the number of a wide number, as the document's section Words says it.
func wordValue(x Wide) *big.Int {
	n := new(big.Int).SetUint64(x.A)
	n.Add(n, new(big.Int).Mul(power(64), new(big.Int).SetUint64(x.B)))
	highest := x.C / top
	n.Add(n, new(big.Int).Mul(power(128), new(big.Int).SetUint64(x.C%top)))
	return n.Sub(n, new(big.Int).Mul(power(191), new(big.Int).SetUint64(highest)))
}

// wordWide is the wide number of a number, come round where it is above or below: its parts by division.
func wordWide(n *big.Int) Wide {
	var parts [3]uint64
	rest, part := new(big.Int).Mod(n, power(192)), new(big.Int)
	for i := range parts {
		rest.DivMod(rest, power(64), part)
		parts[i] = part.Uint64()
	}
	return Wide{A: parts[0], B: parts[1], C: parts[2]}
}

// wordInt is what a checked call answers, whose number this is.
func wordInt(n *big.Int) (int64, api.Errno) {
	if n.Cmp(new(big.Int).Neg(power(63))) < 0 || n.Cmp(power(63)) >= 0 {
		return 0, api.ErrOver
	}
	return n.Int64(), api.OK
}

// wordDot is the sum of all products.
func wordDot(l [][2]int64) *big.Int {
	sum := new(big.Int)
	for _, pair := range l {
		sum.Add(sum, new(big.Int).Mul(big.NewInt(pair[0]), big.NewInt(pair[1])))
	}
	return sum
}

// scatter answers scattered bits, the same ones in each run.
func scatter() func() uint64 {
	return rand.NewPCG(1, 2).Uint64
}

// ends are numbers at which something may go over, those beside them, and some scattered ones of all lengths.
func ends() []int64 {
	l := []int64{0, least, least + 1, least + 2, greatest - 1, greatest}
	for _, n := range []int64{1, 2, 3, 1 << 31, 1 << 32, 3037000499, 1 << 62} {
		for _, beside := range []int64{n - 1, n, n + 1} {
			l = append(l, beside, -beside)
		}
	}
	next := scatter()
	for i := range 40 {
		l = append(l, int64(next())>>(3*i%64))
	}
	slices.Sort(l)
	return slices.Compact(l)
}

// wideEnds are the wide numbers of all parts at their ends, and those beside the numbers that just fit.
func wideEnds() []Wide {
	parts := []uint64{0, 1, top - 1, top, ones - 1, ones}
	var l []Wide
	for _, a := range parts {
		for _, b := range parts {
			for _, c := range parts {
				l = append(l, Wide{a, b, c})
			}
		}
	}
	return append(l, Wide{top + 1, 0, 0}, Wide{top - 2, ones, ones}, Wide{top + 1, ones, ones})
}

// wideSome are fewer of them, for calls of three.
func wideSome() []Wide {
	next := scatter()
	l := []Wide{{}, {A: 1}, {ones, ones, ones}, {ones, 0, 0}, {0, 1, 0}, {ones, ones, 0}, {0, 0, 1}, {ones, ones, top - 1}, {0, 0, top}, {top, 0, 0}, {top, ones, ones}, {top - 1, ones, ones}, {0, top, 0}, {0, ones, 0}, {0, 0, ones}, {1, top, top}}
	for range 30 {
		l = append(l, Wide{next(), next(), next()})
	}
	return l
}

func wantWide(t *testing.T, what string, got, want Wide) {
	t.Helper()
	if got != want {
		t.Fatalf("%s: %x, not %x", what, got, want)
	}
}

func wantInt(t *testing.T, what string, n int64, e api.Errno, want int64, wantE api.Errno) {
	t.Helper()
	if n != want || e != wantE {
		t.Fatalf("%s: %d, %d, not %d, %d", what, n, e, want, wantE)
	}
}

func wantDot(t *testing.T, l [][2]int64, want int64, wantE api.Errno) {
	t.Helper()
	if n, e := Dot(l); n != want || e != wantE {
		t.Fatalf("Dot of %d pairs, %d: %d, %d, not %d, %d", len(l), l[:min(len(l), 6)], n, e, want, wantE)
	}
}

// P5.1: Of is the number, its sign in all bits above it.
func TestOf(t *testing.T) {
	wantWide(t, "Of(-1)", Of(-1), Wide{ones, ones, ones})
	wantWide(t, "Of(0)", Of(0), Wide{})
	wantWide(t, "Of(2^63 - 1)", Of(greatest), Wide{top - 1, 0, 0})
	wantWide(t, "Of(-2^63)", Of(least), Wide{top, ones, ones})
	for _, n := range ends() {
		if wordValue(Of(n)).Cmp(big.NewInt(n)) != 0 {
			t.Errorf("Of(%d): %x", n, Of(n))
		}
	}
}

// P5.1: Mul is the product of each two, which nothing of 64 or of 128 bits would hold.
func TestMul(t *testing.T) {
	wantWide(t, "Mul(-2^63, -2^63)", Mul(least, least), Wide{0, 1 << 62, 0})
	wantWide(t, "Mul(-2^63, 2^63 - 1)", Mul(least, greatest), Wide{top, 3 << 62, ones})
	wantWide(t, "Mul(0, -1)", Mul(0, -1), Wide{})
	wantWide(t, "Mul(-2^32, 2^32)", Mul(-1<<32, 1<<32), Wide{0, ones, ones})
	for _, a := range ends() {
		for _, b := range ends() {
			if got := Mul(a, b); wordValue(got).Cmp(new(big.Int).Mul(big.NewInt(a), big.NewInt(b))) != 0 {
				t.Errorf("Mul(%d, %d): %x", a, b, got)
			}
		}
	}
}

// P5.1: Add is the sum; what is above, or below, comes round, and a carry goes on through all parts.
func TestAdd(t *testing.T) {
	one, minus := Wide{A: 1}, Wide{ones, ones, ones}
	wantWide(t, "2^64 - 1 and 1", Add(Wide{A: ones}, one), Wide{B: 1})
	wantWide(t, "2^128 - 1 and 1", Add(Wide{A: ones, B: ones}, one), Wide{C: 1})
	wantWide(t, "1 and 2^128 - 1", Add(one, Wide{A: ones, B: ones}), Wide{C: 1})
	wantWide(t, "2^128 and -1", Add(Wide{C: 1}, minus), Wide{A: ones, B: ones})
	wantWide(t, "all ones, and all ones", Add(minus, minus), Wide{ones - 1, ones, ones})
	wantWide(t, "-1 and 1", Add(minus, one), Wide{})
	wantWide(t, "2^191 - 1 and 1", Add(Wide{ones, ones, top - 1}, one), Wide{C: top})
	wantWide(t, "-2^191 and -1", Add(Wide{C: top}, minus), Wide{ones, ones, top - 1})
	wantWide(t, "-2^191 and -2^191", Add(Wide{C: top}, Wide{C: top}), Wide{})
	for _, x := range wideEnds() {
		for _, y := range wideEnds() {
			wantWide(t, "a sum", Add(x, y), wordWide(new(big.Int).Add(wordValue(x), wordValue(y))))
		}
	}
}

// P5.1: Neg is what makes 0; of -2^191 it is that itself, come round.
func TestNeg(t *testing.T) {
	wantWide(t, "Neg of 0", Neg(Wide{}), Wide{})
	wantWide(t, "Neg of 1", Neg(Wide{A: 1}), Wide{ones, ones, ones})
	wantWide(t, "Neg of 2^64", Neg(Wide{B: 1}), Wide{0, ones, ones})
	wantWide(t, "Neg of 2^128", Neg(Wide{C: 1}), Wide{0, 0, ones})
	wantWide(t, "Neg of -2^191", Neg(Wide{C: top}), Wide{C: top})
	wantWide(t, "Neg of 2^191 - 1", Neg(Wide{ones, ones, top - 1}), Wide{1, 0, top})
	for _, x := range append(wideEnds(), wideSome()...) {
		wantWide(t, "Neg", Neg(x), wordWide(new(big.Int).Neg(wordValue(x))))
	}
}

// P5.1: Compare tells how the numbers stand, where the signs are unlike, too, and where one part alone tells them apart.
func TestCompare(t *testing.T) {
	for _, c := range []struct{ less, greater Wide }{
		{Wide{ones, ones, ones}, Wide{}},
		{Wide{C: top}, Wide{ones, ones, top - 1}},
		{Wide{A: 1}, Wide{A: 2}},
		{Wide{A: top - 1}, Wide{A: top}},
		{Wide{B: 1}, Wide{B: 2}},
		{Wide{B: top - 1}, Wide{B: top}},
		{Wide{C: 1}, Wide{C: 2}},
		{Wide{C: top}, Wide{C: ones}},
		{Wide{top, ones, ones}, Wide{ones, ones, ones}},
		{Wide{A: ones}, Wide{B: 1}},
		{Wide{A: ones, B: ones}, Wide{C: 1}},
	} {
		if Compare(c.less, c.greater) != -1 || Compare(c.greater, c.less) != 1 || Compare(c.less, c.less) != 0 || Compare(c.greater, c.greater) != 0 {
			t.Errorf("Compare of %x and %x", c.less, c.greater)
		}
	}
}

// P5.1: Int answers a number that fits, by one, too, and refuses one that does not fit by one, or by a higher part alone.
func TestInt(t *testing.T) {
	for _, c := range []struct {
		x Wide
		n int64
		e api.Errno
	}{
		{Wide{}, 0, api.OK},
		{Wide{top - 1, 0, 0}, greatest, api.OK},
		{Wide{top, 0, 0}, 0, api.ErrOver},
		{Wide{top, ones, ones}, least, api.OK},
		{Wide{top - 1, ones, ones}, 0, api.ErrOver},
		{Wide{1, 1, 0}, 0, api.ErrOver},
		{Wide{1, 0, 1}, 0, api.ErrOver},
		{Wide{1, 0, top}, 0, api.ErrOver},
		{Wide{ones, ones - 1, ones}, 0, api.ErrOver},
		{Wide{ones, ones, ones - 1}, 0, api.ErrOver},
		{Wide{ones, 0, ones}, 0, api.ErrOver},
		{Wide{ones, ones, 0}, 0, api.ErrOver},
		{Wide{ones, ones, top - 1}, 0, api.ErrOver},
	} {
		n, e := Int(c.x)
		wantInt(t, "Int", n, e, c.n, c.e)
	}
	for _, x := range append(wideEnds(), wideSome()...) {
		n, e := Int(x)
		want, wantE := wordInt(wordValue(x))
		wantInt(t, "Int", n, e, want, wantE)
	}
}

// P5.2: the chapter's examples, and sums, differences and products that fit, or don't, by one.
func TestCheckedByOne(t *testing.T) {
	for _, c := range []struct {
		name string
		call func(a, b int64) (int64, api.Errno)
		a, b int64
		n    int64
		e    api.Errno
	}{
		{"Plus", Plus, greatest, 1, 0, api.ErrOver},
		{"Plus", Plus, greatest, 0, greatest, api.OK},
		{"Plus", Plus, greatest, least, -1, api.OK},
		{"Plus", Plus, least, -1, 0, api.ErrOver},
		{"Plus", Plus, least, least, 0, api.ErrOver},
		{"Plus", Plus, 1 << 62, 1 << 62, 0, api.ErrOver},
		{"Plus", Plus, -1 << 62, -1 << 62, least, api.OK},
		{"Minus", Minus, least, 1, 0, api.ErrOver},
		{"Minus", Minus, 0, least, 0, api.ErrOver},
		{"Minus", Minus, -1, least, greatest, api.OK},
		{"Minus", Minus, least, least, 0, api.OK},
		{"Minus", Minus, -2, greatest, 0, api.ErrOver},
		{"Minus", Minus, -1, greatest, least, api.OK},
		{"Times", Times, least, -1, 0, api.ErrOver},
		{"Times", Times, -1, least, 0, api.ErrOver},
		{"Times", Times, least, 1, least, api.OK},
		{"Times", Times, 1 << 32, -1 << 31, least, api.OK},
		{"Times", Times, 1 << 32, 1 << 31, 0, api.ErrOver},
		{"Times", Times, 1 << 32, 1 << 32, 0, api.ErrOver},
		{"Times", Times, least, 2, 0, api.ErrOver},
		{"Times", Times, least, 0, 0, api.OK},
		{"Times", Times, 3037000499, 3037000499, 9223372030926249001, api.OK},
		{"Times", Times, 3037000500, 3037000500, 0, api.ErrOver},
	} {
		n, e := c.call(c.a, c.b)
		wantInt(t, c.name, n, e, c.n, c.e)
	}
}

// P5.2, P5.3: Plus, Minus and Times of each two of the numbers at the ends, and Dot of the same.
func TestCheckedAtEnds(t *testing.T) {
	for _, a := range ends() {
		for _, b := range ends() {
			x, y := big.NewInt(a), big.NewInt(b)
			n, e := Plus(a, b)
			want, wantE := wordInt(new(big.Int).Add(x, y))
			wantInt(t, "Plus", n, e, want, wantE)
			wantDot(t, [][2]int64{{a, 1}, {b, 1}}, want, wantE)
			n, e = Minus(a, b)
			want, wantE = wordInt(new(big.Int).Sub(x, y))
			wantInt(t, "Minus", n, e, want, wantE)
			wantDot(t, [][2]int64{{a, 1}, {b, -1}}, want, wantE)
			n, e = Times(a, b)
			want, wantE = wordInt(new(big.Int).Mul(x, y))
			wantInt(t, "Times", n, e, want, wantE)
			wantDot(t, [][2]int64{{a, b}}, want, wantE)
		}
	}
}

// P5.3: the chapter's examples, no pairs, one, and sums that fit, or don't, by one.
func TestDot(t *testing.T) {
	wantDot(t, nil, 0, api.OK)
	wantDot(t, [][2]int64{}, 0, api.OK)
	wantDot(t, [][2]int64{{greatest, 2}, {least, 1}, {-1, 1<<63 - 3}}, 1, api.OK)
	wantDot(t, [][2]int64{{least, -1}, {1, -1}}, greatest, api.OK)
	wantDot(t, [][2]int64{{least, -1}}, 0, api.ErrOver)
	wantDot(t, [][2]int64{{-3, 7}}, -21, api.OK)
	wantDot(t, [][2]int64{{greatest, 1}, {1, 1}}, 0, api.ErrOver)
	wantDot(t, [][2]int64{{least, 1}, {1, -1}}, 0, api.ErrOver)
	wantDot(t, [][2]int64{{greatest, 1}, {1, 1}, {-1, 1}}, greatest, api.OK)
	wantDot(t, [][2]int64{{least, 1}, {-1, 1}, {1, 1}}, least, api.OK)
	next := scatter()
	for range 2000 {
		l := make([][2]int64, next()%9)
		for i := range l {
			l[i] = [2]int64{int64(next()) >> (next() % 64), int64(next()) >> (next() % 64)}
		}
		want, wantE := wordInt(wordDot(l))
		wantDot(t, l, want, wantE)
	}
}

// repeat is a list of one pair, many times.
func repeat(pair [2]int64, times int) [][2]int64 {
	return slices.Repeat([][2]int64{pair}, times)
}

// P5.3: nothing comes round on the way, at 2^64, 2^127, 2^128 or above: neither does what fits come out as what does not, nor the other way round.
func TestDotFarOut(t *testing.T) {
	wantDot(t, [][2]int64{{1 << 32, 1 << 32}}, 0, api.ErrOver)
	wantDot(t, [][2]int64{{1 << 32, 1 << 32}, {7, 1}}, 0, api.ErrOver)
	wantDot(t, [][2]int64{{1 << 32, -1 << 32}, {-7, 1}}, 0, api.ErrOver)
	for _, times := range []int{1, 2, 3, 4, 5, 8, 1 << 16} {
		up := repeat([2]int64{least, least}, times)
		down := repeat([2]int64{least, greatest}, times)
		rest := repeat([2]int64{least, 1}, times)
		wantDot(t, up, 0, api.ErrOver)
		wantDot(t, append(up, [2]int64{5, 1}), 0, api.ErrOver)
		wantDot(t, down, 0, api.ErrOver)
		wantDot(t, append(down, [2]int64{-5, 1}), 0, api.ErrOver)
		for _, l := range [][][2]int64{
			slices.Concat(up, down, rest),
			slices.Concat(rest, down, up),
			slices.Concat(down, up, rest),
			slices.Concat(down, rest, up),
		} {
			wantDot(t, l, 0, api.OK)
			wantDot(t, append(l, [2]int64{least, 1}), least, api.OK)
			wantDot(t, append(l, [2]int64{least, -1}), 0, api.ErrOver)
		}
	}
}

// P5.3: what is handed in is only read, its spare room too.
func TestDotReads(t *testing.T) {
	for _, whole := range [][][2]int64{
		{{3, 4}, {-5, 6}, {7, 8}, {9, 10}},
		{{least, least}, {greatest, greatest}, {1, 2}, {3, 4}},
	} {
		kept := slices.Clone(whole)
		for length := range len(whole) + 1 {
			Dot(whole[:length])
			if !slices.Equal(whole, kept) {
				t.Fatalf("Dot of %d of %d made %d", length, kept, whole)
			}
		}
	}
}

// P5.4: Add hangs on no order, and on no way of putting three together; Neg takes back what Add adds, and itself.
func TestAddHangsOnNoOrder(t *testing.T) {
	for _, x := range wideEnds() {
		wantWide(t, "x and Neg of x", Add(x, Neg(x)), Wide{})
		wantWide(t, "Neg of Neg", Neg(Neg(x)), x)
		for _, y := range wideEnds() {
			sum := Add(x, y)
			wantWide(t, "the other order", Add(y, x), sum)
			wantWide(t, "taken back", Add(sum, Neg(y)), x)
		}
	}
	for _, x := range wideSome() {
		for _, y := range wideSome() {
			for _, z := range wideSome() {
				wantWide(t, "three", Add(Add(x, y), z), Add(x, Add(y, z)))
			}
		}
	}
}

// P5.5: Mul hangs on no order; a times (b + c) is both products together.
func TestMulHangsOnNoOrder(t *testing.T) {
	for _, a := range ends() {
		for _, b := range ends() {
			product := Mul(a, b)
			wantWide(t, "the other order", Mul(b, a), product)
			for _, c := range ends() {
				if sum, e := Plus(b, c); e == api.OK {
					wantWide(t, "a times (b + c)", Mul(a, sum), Add(product, Mul(a, c)))
				}
			}
		}
	}
}

// orders goes over all orders of a list, each of them in the list itself.
func orders(l [][2]int64, from int, look func()) {
	if from == len(l) {
		look()
		return
	}
	for i := from; i < len(l); i++ {
		l[from], l[i] = l[i], l[from]
		orders(l, from+1, look)
		l[from], l[i] = l[i], l[from]
	}
}

// P5.6: Dot does not hang on the order of the pairs, be it that the sum fits or not.
func TestDotHangsOnNoOrder(t *testing.T) {
	for _, c := range []struct {
		l [][2]int64
		n int64
		e api.Errno
	}{
		{[][2]int64{{greatest, 2}, {least, 1}, {-1, 1<<63 - 3}}, 1, api.OK},
		{[][2]int64{{least, -1}, {1, -1}}, greatest, api.OK},
		{[][2]int64{{least, least}, {least, least}, {least, greatest}, {least, greatest}, {least, 2}, {-4, 9}}, -36, api.OK},
		{[][2]int64{{least, least}, {least, least}, {least, greatest}, {least, greatest}, {least, 1}}, 0, api.ErrOver},
		{[][2]int64{{greatest, 1}, {1, 1}, {least, 1}, {least, 1}, {-1, 1}}, 0, api.ErrOver},
		{[][2]int64{{least, 1}, {-1, 1}, {greatest, 1}, {1, 1}, {-1, 1}}, -2, api.OK},
	} {
		orders(c.l, 0, func() { wantDot(t, c.l, c.n, c.e) })
	}
}

// P5.6: of two lists whose sums fit, the sum of both, one behind the other, is Plus of the two: where that is refused, so is the sum.
func TestDotOfBoth(t *testing.T) {
	lists := [][][2]int64{nil}
	next := scatter()
	for _, a := range ends() {
		lists = append(lists, [][2]int64{{a, 1}}, [][2]int64{{least, least}, {least, greatest}, {least, 1}, {a, 1}})
		lists = append(lists, [][2]int64{{int64(next()) >> 40, int64(next()) >> 40}, {a, -1}})
	}
	for _, l := range lists {
		for _, m := range lists {
			a, ea := Dot(l)
			b, eb := Dot(m)
			if ea == api.OK && eb == api.OK {
				want, wantE := Plus(a, b)
				wantDot(t, slices.Concat(l, m), want, wantE)
			}
		}
	}
}

// P5.7: Int takes just what Of makes.
func TestIntTakesWhatOfMakes(t *testing.T) {
	for _, n := range ends() {
		got, e := Int(Of(n))
		wantInt(t, "Int of Of", got, e, n, api.OK)
		for bit := range uint(64) {
			// A turned bit of a higher part alone makes a number that Of does not make.
			for _, x := range []Wide{{Of(n).A, Of(n).B ^ 1<<bit, Of(n).C}, {Of(n).A, Of(n).B, Of(n).C ^ 1<<bit}} {
				got, e := Int(x)
				wantInt(t, "Int of no Of", got, e, 0, api.ErrOver)
			}
		}
	}
	for _, x := range append(wideEnds(), wideSome()...) {
		if n, e := Int(x); e == api.OK && Of(n) != x {
			t.Errorf("Int took %x as %d", x, n)
		}
	}
}

// P5.7: Compare is an order, and goes with the numbers'.
func TestCompareGoesWithNumbers(t *testing.T) {
	for _, a := range ends() {
		for _, b := range ends() {
			if got := Compare(Of(a), Of(b)); got != big.NewInt(a).Cmp(big.NewInt(b)) {
				t.Errorf("Compare of %d and %d: %d", a, b, got)
			}
		}
	}
	l := append(wideEnds(), wideSome()...)
	for _, x := range l {
		for _, y := range l {
			got := Compare(x, y)
			if got != wordValue(x).Cmp(wordValue(y)) || got != -Compare(y, x) || (got == 0) != (x == y) {
				t.Errorf("Compare of %x and %x: %d", x, y, got)
			}
		}
	}
	sorted := slices.SortedFunc(slices.Values(l), Compare)
	for i := range sorted[1:] {
		if wordValue(sorted[i]).Cmp(wordValue(sorted[i+1])) > 0 {
			t.Errorf("%x is sorted ahead of %x", sorted[i], sorted[i+1])
		}
	}
}
