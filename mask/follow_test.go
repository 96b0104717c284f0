package mask

import (
	"math/bits"
	"slices"
	"testing"

	"millstream/api"
)

// onesOf is how many bits of bytes are 1.
func onesOf(b []byte) int {
	many := 0
	for _, of := range b {
		many += bits.OnesCount8(of)
	}
	return many
}

// P14.4: what is packed is unpacked as it was, whatever stands behind.
func TestWhatIsPackedIsUnpacked(t *testing.T) {
	next := scatter()
	for many := range 5000 {
		l := scatteredBools(next, many%150, 1+next(4))
		b := Pack(l)
		wantSize(t, len(l), len(b))
		wantUnpack(t, b, len(l), l, len(b), api.OK)
		wantUnpack(t, slices.Concat(b, scatteredBytes(next, next(5))), len(l), l, len(b), api.OK)
		wantUnpack(t, slices.Concat(b, []byte{0xff}), len(l), l, len(b), api.OK)
	}
	for _, many := range []int{1<<20 - 1, 1 << 20} {
		l := scatteredBools(next, many, 2)
		b := Pack(l)
		wantUnpack(t, slices.Concat(b, []byte{0xff}), many, l, 1<<17, api.OK)
	}
}

// P14.4: what can be unpacked is packed to just those bytes.
func TestWhatCanBeUnpackedIsPacked(t *testing.T) {
	next := scatter()
	count := map[api.Errno]int{}
	for range 40000 {
		b := scatteredBytes(next, next(6))
		for range next(2) * len(b) {
			b[next(len(b))] &= byte(next(256))
		}
		l, size, e := Unpack(b, next(8*len(b)+1))
		count[e]++
		if e == api.OK {
			wantPack(t, l, b[:size])
		}
	}
	if count[api.OK] < 5000 || count[api.ErrBits] < 5000 || count[api.ErrTrunc] > 0 {
		t.Errorf("the test is wrong: %v", count)
	}
}

// P14.5: lists of which the first one fills its bytes are packed as their bytes, one behind the other.
func TestListsAreJoined(t *testing.T) {
	next := scatter()
	for range 5000 {
		a, b := scatteredBools(next, 8*next(9), 2), scatteredBools(next, next(70), 2)
		wantPack(t, slices.Concat(a, b), slices.Concat(Pack(a), Pack(b)))
		wantCount(t, slices.Concat(a, b), Count(a)+Count(b))
	}
}

// P14.5: as many bits are 1 as bools are true.
func TestAsManyBitsAreOne(t *testing.T) {
	next := scatter()
	for many := range 5000 {
		l := scatteredBools(next, many%150, next(5))
		wantCount(t, l, onesOf(Pack(l)))
		b := scatteredBytes(next, next(20))
		read, _, e := Unpack(b, 8*len(b))
		if e != api.OK {
			t.Fatalf("Unpack of %s, %d: %d", toldBytes(b), 8*len(b), e)
		}
		wantCount(t, read, onesOf(b))
	}
}
