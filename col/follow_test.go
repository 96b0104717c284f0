package col

import (
	"slices"
	"testing"

	"millstream/api"
	"millstream/mask"
)

// P16.4: a column that is put is got as it was, whatever stands behind; no beginning of its bytes is one of as many cells.
func TestWhatIsPutIsGot(t *testing.T) {
	next := scatter()
	for _, of := range typesThatMay() {
		for many := range 1000 {
			l := scatteredCells(next, of, many%70)
			b := put(t, of, l)
			for _, behind := range []string{"", "\x00", "\x80", "\xff\xff", scatteredText(next, false)} {
				wantGet(t, append(slices.Clone(b), behind...), of, len(l), l, len(b), api.OK)
			}
			if len(b) > 0 {
				wantGet(t, b[:next(len(b))], of, len(l), nil, 0, api.ErrTrunc)
			}
		}
	}
}

// P16.4: columns of any types that are put one behind the other are got so.
func TestColumnsAreGotOneBehindTheOther(t *testing.T) {
	next := scatter()
	types := typesThatMay()
	for range 1000 {
		var b []byte
		lists, ofs := make([][]api.Cell, next(6)), make([]api.Type, 6)
		for i := range lists {
			ofs[i] = types[next(len(types))]
			lists[i] = scatteredCells(next, ofs[i], next(20))
			b, _ = Put(b, ofs[i], lists[i])
		}
		for i, l := range lists {
			size := len(put(t, ofs[i], l))
			wantGet(t, b, ofs[i], len(l), l, size, api.OK)
			b = b[size:]
		}
		if len(b) > 0 {
			t.Fatalf("%s is left", toldBytes(b))
		}
	}
}

// P16.4: bytes that can be got are those of the cells that are got.
func TestWhatCanBeGotIsPut(t *testing.T) {
	got := map[api.Type]int{}
	look := func(b []byte, of api.Type, n int) {
		l, size, e := Get(b, of, n)
		if e != api.OK {
			return
		}
		got[of]++
		wantPut(t, nil, of, l, b[:size], api.OK)
		if len(l) != n {
			t.Fatalf("Get of %s, %v, %d: %s", toldBytes(b), of, n, told(l))
		}
	}
	next := scatter()
	for _, of := range typesThatMay() {
		eachList([]byte{0x00, 0x01, 0x02, 0x03, 0x80, 0xff}, 5, func(b []byte) {
			for n := range 5 {
				look(b, of, n)
			}
		})
		for range 5000 {
			l := scatteredCells(next, of, next(12))
			b := append(put(t, of, l), 0x00)
			b[next(len(b))] = byte(next(256))
			look(b, of, len(l))
		}
	}
	for _, of := range typesThatMay() {
		if got[of] < 500 {
			t.Errorf("the test is wrong: %v", got)
		}
	}
}

// P16.5: the bytes of a column that may be nothing are the bits of what is there, and the bytes of these cells as a column that may not.
func TestWhatMayBeNothing(t *testing.T) {
	next := scatter()
	for _, of := range []api.Type{maybeBool, maybeInt32, maybeInt64, maybeString, maybeSomeOf} {
		for many := range 1000 {
			l := scatteredCells(next, of, many%70)
			var are []bool
			var those []api.Cell
			for _, c := range l {
				are = append(are, c != nothing)
				if c != nothing {
					those = append(those, c)
				}
			}
			firm := api.Type{Kind: of.Kind}
			wantPut(t, nil, of, l, slices.Concat(mask.Pack(are), put(t, firm, those)), api.OK)
			wantGet(t, put(t, of, l)[mask.Size(len(l)):], firm, len(those), those, len(put(t, firm, those)), api.OK)
		}
	}
}

// P16.6: a column of int32 has the bytes that it has as one of int64.
func TestSmallNumbersAreGreatOnes(t *testing.T) {
	next := scatter()
	for small, great := range map[api.Type]api.Type{anInt32: anInt64, maybeInt32: maybeInt64} {
		for many := range 1000 {
			l := scatteredCells(next, small, many%70)
			b := put(t, small, l)
			wantPut(t, nil, great, l, b, api.OK)
			wantGet(t, b, great, len(l), l, len(b), api.OK)
		}
	}
}
