package cell

import (
	"strings"
	"testing"

	"millstream/api"
)

// P9.6: a cell's text is read as it was.
func TestTextsAreRead(t *testing.T) {
	for _, of := range typesThatMay() {
		for _, c := range cellsOf(of) {
			text, e := Text(of, c)
			if e != api.OK {
				t.Errorf("Text(%v, %s): %d", of, told(c), e)
			}
			wantRead(t, of, text, c, api.OK)
		}
	}
}

// P9.6: no two cells of a type have one text.
func TestTextsAreUnlike(t *testing.T) {
	for _, of := range typesThatMay() {
		had := map[string]api.Cell{}
		for _, c := range cellsOf(of) {
			text, _ := Text(of, c)
			if other, twice := had[text]; twice {
				t.Errorf("%v: %s and %s are %s", of, told(c), told(other), short(text))
			}
			had[text] = c
		}
	}
}

// P9.7: bits stand as the cells do, and none are the beginning of others.
func TestBitsStandAsCells(t *testing.T) {
	for _, of := range typesThatMay() {
		cells := cellsOf(of)
		bits := make([]string, len(cells))
		for i, c := range cells {
			b, e := Bits(of, c)
			if e != api.OK || b == "" {
				t.Errorf("Bits(%v, %s): %s, %d", of, told(c), short(b), e)
			}
			bits[i] = b
		}
		for i, a := range cells {
			for j, b := range cells {
				if strings.Compare(bits[i], bits[j]) != Compare(a, b) {
					t.Fatalf("%v: %s and %s stand otherwise than %s and %s", of, short(bits[i]), short(bits[j]), told(a), told(b))
				}
				if i != j && strings.HasPrefix(bits[i], bits[j]) {
					t.Fatalf("%v: the bits of %s begin with those of %s", of, told(a), told(b))
				}
			}
		}
	}
}

// P9.8: bits are taken off as they were, whatever stands behind.
func TestBitsAreTakenOff(t *testing.T) {
	for _, of := range typesThatMay() {
		for _, c := range cellsOf(of) {
			bits, _ := Bits(of, c)
			for _, behind := range []string{"", "\x00", "\x01", "a", "\xff", "\x00\x00", "\x00\xff", "\xff\x00", strings.Repeat("\xff", 1100), bits} {
				wantUnbits(t, of, bits+behind, c, len(bits), api.OK)
			}
		}
	}
}

// P9.5, P9.8: bits that are cut off anywhere are ErrTrunc.
func TestBitsThatAreCutOff(t *testing.T) {
	for _, of := range typesThatMay() {
		for _, c := range cellsOf(of) {
			bits, _ := Bits(of, c)
			for cut := range len(bits) {
				wantUnbits(t, of, bits[:cut], api.Cell{}, 0, api.ErrTrunc)
			}
		}
	}
}

// P9.8: a cell of int32 has the bits that it has as one of int64.
func TestBitsOfInt32AreThoseOfInt64(t *testing.T) {
	for _, null := range []bool{false, true} {
		of, wider := api.Type{Kind: api.TInt32, Null: null}, api.Type{Kind: api.TInt64, Null: null}
		for _, c := range cellsOf(of) {
			bits, e := Bits(of, c)
			wantBits(t, wider, c, bits, e)
			wantUnbits(t, wider, bits, c, len(bits), api.OK)
		}
	}
}
