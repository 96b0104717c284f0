package cell

import (
	"math"
	"strings"
	"testing"

	"millstream/api"
)

// P9.5: a type that may not be is told, whatever the bytes are.
func TestUnbitsOfWrongTypes(t *testing.T) {
	for _, of := range typesThatMayNot() {
		for _, s := range []string{"", "\x00", "\x01", "\x02", "\x00\x00", strings.Repeat("\x00", 9), "\xff\x00\x00"} {
			wantUnbits(t, of, s, api.Cell{}, 0, api.ErrArg)
		}
	}
}

// P9.5: each first byte of a bool, and of what may be nothing.
func TestUnbitsOfEachFirstByte(t *testing.T) {
	for c := range 256 {
		b := string([]byte{byte(c)})
		for _, behind := range []string{"", "\x00", "\x01", "\x02", "\xff", strings.Repeat("\x80", 8)} {
			if c > 1 {
				wantUnbits(t, aBool, b+behind, api.Cell{}, 0, api.ErrForm)
				wantUnbits(t, maybeBool, "\x01"+b+behind, api.Cell{}, 0, api.ErrForm)
				for _, of := range typesThatMay() {
					if of.Null {
						wantUnbits(t, of, b+behind, api.Cell{}, 0, api.ErrForm)
					}
				}
				continue
			}
			wantUnbits(t, aBool, b+behind, num(int64(c)), 1, api.OK)
			wantUnbits(t, maybeBool, "\x01"+b+behind, num(int64(c)), 2, api.OK)
			for _, of := range typesThatMay() {
				if of.Null {
					wantUnbits(t, of, "\x00"+b+behind, nothing, 1, api.OK)
				}
			}
		}
	}
	for _, of := range typesThatMay() {
		wantUnbits(t, of, "", api.Cell{}, 0, api.ErrTrunc)
		if of.Null {
			wantUnbits(t, of, "\x01", api.Cell{}, 0, api.ErrTrunc)
		}
	}
}

// P9.5: whole numbers have eight bytes; that one is none of int32 is told behind the last of them.
func TestUnbitsOfWholeNumbers(t *testing.T) {
	for _, n := range someNumbers() {
		bits := wordBits(anInt64, num(n))
		for _, behind := range []string{"", "\x00", "!", "\xff\xff"} {
			wantUnbits(t, anInt64, bits+behind, num(n), 8, api.OK)
			wantUnbits(t, maybeInt64, "\x01"+bits+behind, num(n), 9, api.OK)
			if math.MinInt32 <= n && n <= math.MaxInt32 {
				wantUnbits(t, anInt32, bits+behind, num(n), 8, api.OK)
				wantUnbits(t, maybeInt32, "\x01"+bits+behind, num(n), 9, api.OK)
			} else {
				wantUnbits(t, anInt32, bits+behind, api.Cell{}, 0, api.ErrForm)
				wantUnbits(t, maybeInt32, "\x01"+bits+behind, api.Cell{}, 0, api.ErrForm)
			}
		}
		for cut := range 8 {
			for _, of := range []api.Type{anInt32, anInt64} {
				wantUnbits(t, of, bits[:cut], api.Cell{}, 0, api.ErrTrunc)
				of.Null = true
				wantUnbits(t, of, "\x01"+bits[:cut], api.Cell{}, 0, api.ErrTrunc)
			}
		}
	}
}

// P9.5: behind 00 stands 00 or FF, and nothing else.
func TestUnbitsOfEachByteBehindAMark(t *testing.T) {
	for _, of := range []api.Type{aString, someOf} {
		for _, ahead := range []string{"", "a", "\x00\xff"} {
			said := strings.TrimSuffix(ahead, "\xff")
			for c := range 256 {
				s := ahead + "\x00" + string([]byte{byte(c)})
				switch c {
				case 0x00:
					wantUnbits(t, of, s, run(said), len(s), api.OK)
					wantUnbits(t, of, s+"b\x00\x00", run(said), len(s), api.OK)
				case 0xff:
					wantUnbits(t, of, s, api.Cell{}, 0, api.ErrTrunc)
					wantUnbits(t, of, s+"b\x00\x00", run(said+"\x00b"), len(s)+3, api.OK)
				default:
					wantUnbits(t, of, s, api.Cell{}, 0, api.ErrForm)
					wantUnbits(t, of, s+"b\x00\x00", api.Cell{}, 0, api.ErrForm)
				}
			}
			wantUnbits(t, of, ahead, api.Cell{}, 0, api.ErrTrunc)
			wantUnbits(t, of, ahead+"\x00", api.Cell{}, 0, api.ErrTrunc)
		}
	}
}

// P9.5: behind 1024 bytes there may be the end, and no byte more, be it spelt in one byte or in two.
func TestUnbitsOfLongRuns(t *testing.T) {
	for _, of := range []api.Type{aString, someOf, maybeString, maybeSomeOf} {
		first := strings.Repeat("\x01", len(wordBits(of, run("")))-2)
		for _, unit := range []string{"a", "\x00", "\u00e4", "\U0001f600"} {
			full := strings.Repeat(unit, 1024/len(unit))
			spelt := first + strings.ReplaceAll(full, "\x00", "\x00\xff")
			wantUnbits(t, of, spelt, api.Cell{}, 0, api.ErrTrunc)
			wantUnbits(t, of, spelt+"\x00", api.Cell{}, 0, api.ErrTrunc)
			wantUnbits(t, of, spelt+"\x00\x00", run(full), len(spelt)+2, api.OK)
			wantUnbits(t, of, spelt+"\x00\x00b", run(full), len(spelt)+2, api.OK)
			wantUnbits(t, of, spelt+"\x00\xff", api.Cell{}, 0, api.ErrForm)
			wantUnbits(t, of, spelt+"\x00\x01", api.Cell{}, 0, api.ErrForm)
			wantUnbits(t, of, spelt+"b", api.Cell{}, 0, api.ErrForm)
			wantUnbits(t, of, spelt+"b\x00\x00", api.Cell{}, 0, api.ErrForm)
			wantUnbits(t, of, spelt+"\xff", api.Cell{}, 0, api.ErrForm)
			wantUnbits(t, of, spelt+strings.Repeat("b", 5000), api.Cell{}, 0, api.ErrForm)
		}
		short := first + strings.Repeat("a", 1023)
		wantUnbits(t, of, short+"\x00\xff", api.Cell{}, 0, api.ErrTrunc)
		wantUnbits(t, of, short+"\x00\xff\x00\x00", run(strings.Repeat("a", 1023)+"\x00"), len(short)+4, api.OK)
	}
}

// P9.5: that bytes are no UTF-8 is told behind the last of them, and of a string alone.
func TestUnbitsOfWhatIsNoUtf(t *testing.T) {
	for _, bad := range []string{"\xff", "a\x80", "\xc3", "\xc3\x00\xff\xa4", "\xed\xa0\x80", "\xf4\x90\x80\x80", "\u00e4\xe2\x82"} {
		said := strings.ReplaceAll(bad, "\x00\xff", "\x00")
		whole := bad + "\x00\x00"
		for cut := range len(whole) {
			wantUnbits(t, aString, whole[:cut], api.Cell{}, 0, api.ErrTrunc)
			wantUnbits(t, someOf, whole[:cut], api.Cell{}, 0, api.ErrTrunc)
		}
		wantUnbits(t, aString, whole, api.Cell{}, 0, api.ErrForm)
		wantUnbits(t, maybeString, "\x01"+whole+"a", api.Cell{}, 0, api.ErrForm)
		wantUnbits(t, someOf, whole, run(said), len(bad)+2, api.OK)
		wantUnbits(t, maybeSomeOf, "\x01"+whole+"a", run(said), len(bad)+3, api.OK)
	}
}

// P9.5, P9.8: of all bytes of a few pieces the cells are taken off that the words say; what is taken off has just those bits.
func TestUnbitsOfEachShortText(t *testing.T) {
	count := map[api.Errno]int{}
	look := func(of api.Type, s string) {
		e := wantUnbitsOfTheWords(t, of, s)
		count[e]++
		if e == api.OK {
			c, n, _ := Unbits(of, s)
			wantBits(t, of, c, s[:n], api.OK)
		}
	}
	for _, of := range typesThatMay() {
		eachText([]string{"\x00", "\x01", "\x02", "a", "\x80", "\xc3", "\xa4", "\xfe", "\xff"}, 4, func(s string) { look(of, s) })
		eachText([]string{"\x00", "\x00\x00", "\x00\xff", "\x01", "\u00e4"}, 5, func(s string) { look(of, s) })
	}
	for _, of := range []api.Type{anInt32, anInt64, maybeInt32, maybeInt64} {
		eachText([]string{"\x00\x00\x00\x00", "\x7f\xff\xff\xff", "\x80\x00\x00\x00", "\xff\xff\xff\xff", "\x80", "\x01", "\x02"}, 4, func(s string) { look(of, s) })
	}
	if count[api.OK] < 1000 || count[api.ErrForm] < 1000 || count[api.ErrTrunc] < 1000 {
		t.Errorf("the test is wrong: %v", count)
	}
}

// P9.5: of bits of cells with a byte left out, put in, or changed, those are taken off that the words say.
func TestUnbitsIsThatOfTheWords(t *testing.T) {
	for _, of := range typesThatMay() {
		for _, c := range cellsOf(of) {
			if len(c.S) > 12 {
				continue
			}
			for _, s := range beside(wordBits(of, c), "\x00\x01\x02a\x7f\x80\xff") {
				wantUnbitsOfTheWords(t, of, s)
			}
		}
	}
}
