package mask

import (
	"math"
	"slices"
	"strings"
	"testing"

	"millstream/api"
)

// P14.1 and P14.2: the chapter's examples.
func TestExamples(t *testing.T) {
	wantPack(t, bools("tfft"), []byte{0x09})
	wantPack(t, bools("ttttttttf"), []byte{0xff, 0x00})
	wantPack(t, nil, nil)
	wantUnpack(t, []byte{0x09, 0xff}, 4, bools("tfft"), 1, api.OK)
	wantUnpack(t, []byte{0x09}, 3, nil, 0, api.ErrBits)
	wantUnpack(t, []byte{0x09}, 9, nil, 0, api.ErrTrunc)
	wantUnpack(t, []byte{0x09}, -1, nil, 0, api.ErrRange)
	wantUnpack(t, nil, 0, nil, 0, api.OK)
	wantSize(t, 0, 0)
	wantSize(t, 8, 1)
	wantSize(t, 9, 2)
	wantSize(t, 1<<20+1, 0)
}

// P14.1: the bool at a place is the bit of the place mod 8, from the lowest one on, of the byte of the place / 8.
func TestEachBoolIsABit(t *testing.T) {
	for many := 1; many <= 40; many++ {
		for place := range many {
			l := make([]bool, many)
			l[place] = true
			want := make([]byte, fewest(many))
			want[place/8] = byte(values()[place%8])
			wantPack(t, l, want)
			wantCount(t, l, 1)
			wantUnpack(t, want, many, l, len(want), api.OK)
		}
	}
}

// P14.1 and P14.2: each list of up to twelve bools.
func TestAllShortLists(t *testing.T) {
	for many := range 13 {
		for number := range 1 << many {
			l := make([]bool, many)
			for place := range l {
				l[place] = number>>place&1 == 1
			}
			b := wordPack(l)
			wantPack(t, l, b)
			wantCount(t, l, wordCount(l))
			wantUnpack(t, b, many, l, len(b), api.OK)
		}
	}
}

// P14.1: Size is that of the words, 0 below 0 and above MaxRows.
func TestSize(t *testing.T) {
	for n := -70; n <= 300; n++ {
		wantSize(t, n, wordSize(n))
	}
	for n := 1<<20 - 20; n <= 1<<20+20; n++ {
		wantSize(t, n, wordSize(n))
	}
	wantSize(t, 1, 1)
	wantSize(t, 1<<20-7, 1<<17)
	wantSize(t, 1<<20-8, 1<<17-1)
	wantSize(t, 1<<20, 1<<17)
	for _, n := range []int{math.MinInt, math.MinInt + 1, math.MinInt32, -8, -1, 1<<20 + 1, 1<<20 + 8, math.MaxInt32, 1 << 32, 1<<32 + 8, math.MaxInt - 7, math.MaxInt - 6, math.MaxInt} {
		wantSize(t, n, 0)
	}
}

// P14.1: Pack and Count are those of the words, of lists that are longer than one that can be read, too, for nothing is said of how long they may be.
func TestPackAndCountAreThoseOfTheWords(t *testing.T) {
	next := scatter()
	for range 3000 {
		l := scatteredBools(next, next(200), next(5))
		wantPack(t, l, wordPack(l))
		wantCount(t, l, wordCount(l))
	}
	for _, many := range []int{1<<20 - 1, 1 << 20, 1<<20 + 1, 1<<20 + 8, 1<<20 + 9, 1 << 22} {
		l := scatteredBools(next, many, 2)
		l[many-1] = true
		wantPack(t, l, wordPack(l))
		wantCount(t, l, wordCount(l))
	}
	wantCount(t, nil, 0)
	wantCount(t, []bool{}, 0)
	wantPack(t, []bool{}, nil)
}

// P14.2: what is wrong first is told: how many bools there are to be, then that bytes are missing, then bits behind the last one.
func TestUnpackRefuses(t *testing.T) {
	for _, n := range []int{math.MinInt, -9, -8, -1, 1<<20 + 1, 1<<20 + 8, 1 << 32, math.MaxInt - 6, math.MaxInt} {
		wantUnpack(t, nil, n, nil, 0, api.ErrRange)
		wantUnpack(t, []byte{0xff, 0xff}, n, nil, 0, api.ErrRange)
	}
	wantUnpack(t, make([]byte, 1<<18), 1<<20+1, nil, 0, api.ErrRange)
	wantUnpack(t, nil, 1, nil, 0, api.ErrTrunc)
	wantUnpack(t, []byte{}, 8, nil, 0, api.ErrTrunc)
	wantUnpack(t, []byte{0xff}, 9, nil, 0, api.ErrTrunc)
	wantUnpack(t, []byte{0xff, 0xff}, 17, nil, 0, api.ErrTrunc)
	wantUnpack(t, nil, 1<<20, nil, 0, api.ErrTrunc)
	wantUnpack(t, make([]byte, 1<<17-1), 1<<20, nil, 0, api.ErrTrunc)
	wantUnpack(t, make([]byte, 1<<17-1), 1<<20-7, nil, 0, api.ErrTrunc)
	wantUnpack(t, []byte{0x02}, 1, nil, 0, api.ErrBits)
	wantUnpack(t, []byte{0x80}, 7, nil, 0, api.ErrBits)
	wantUnpack(t, []byte{0x00, 0x80}, 15, nil, 0, api.ErrBits)
	wantUnpack(t, []byte{0x00, 0x02, 0x00}, 9, nil, 0, api.ErrBits)
	b := make([]byte, 1<<17)
	b[1<<17-1] = 0x80
	wantUnpack(t, b, 1<<20-1, nil, 0, api.ErrBits)
}

// P14.2: bits are wrong in the last byte alone, where bools end within it; what stands behind that byte is not looked at.
func TestUnpackLooksAtItsBytesAlone(t *testing.T) {
	eight := bools("tttttttt")
	wantUnpack(t, []byte{0xff}, 0, nil, 0, api.OK)
	wantUnpack(t, []byte{}, 0, nil, 0, api.OK)
	wantUnpack(t, []byte{0xff}, 8, eight, 1, api.OK)
	wantUnpack(t, []byte{0xff, 0xff}, 8, eight, 1, api.OK)
	wantUnpack(t, []byte{0xff, 0x7f, 0xff}, 15, bools(strings.Repeat("t", 15)), 2, api.OK)
	wantUnpack(t, []byte{0xff, 0xff, 0x80}, 16, bools(strings.Repeat("t", 16)), 2, api.OK)
	wantUnpack(t, []byte{0x00, 0x01, 0x01}, 9, bools("fffffffft"), 2, api.OK)
}

// P14.2: each two bytes, as each number of bools, and as one that is too small or too great.
func TestUnpackOfAllTwoBytes(t *testing.T) {
	count := map[api.Errno]int{}
	for number := range 1 << 16 {
		b := []byte{byte(number), byte(number >> 8)}
		for n := -1; n <= 17; n++ {
			count[wantUnpackOfTheWords(t, b, n)]++
		}
	}
	if count[api.ErrRange] != 1<<16 || count[api.ErrTrunc] != 1<<16 || count[api.OK] < 1<<18 || count[api.ErrBits] < 1<<18 {
		t.Errorf("the test is wrong: %v", count)
	}
}

// P14.2: Unpack is that of the words.
func TestUnpackIsThatOfTheWords(t *testing.T) {
	next := scatter()
	count := map[api.Errno]int{}
	for range 20000 {
		b := scatteredBytes(next, next(20))
		n := 8*len(b) + next(24) - 16
		if size := wordSize(n); next(2) == 0 && 0 < size && size <= len(b) {
			b[size-1] >>= 8*size - n
		}
		count[wantUnpackOfTheWords(t, b, n)]++
	}
	for _, e := range []api.Errno{api.OK, api.ErrRange, api.ErrTrunc, api.ErrBits} {
		if count[e] < 500 {
			t.Errorf("the test is wrong: %v", count)
		}
	}
	b := scatteredBytes(next, 1<<17+3)
	for n := 1<<20 - 9; n <= 1<<20+1; n++ {
		wantUnpackOfTheWords(t, b, n)
		wantUnpackOfTheWords(t, wordPack(bitsOf(b)[:n]), n)
	}
}

// roomy is a list with spare room behind it, and the list with that room.
func roomy[T any](list []T, spare T) (l, room []T) {
	room = append(slices.Clone(list), spare, spare, spare)
	return room[:len(list):len(room)], room
}

// P14.3: what is handed in is only read, its spare room neither written to.
func TestWhatIsHandedInIsOnlyRead(t *testing.T) {
	next := scatter()
	for range 500 {
		l, listRoom := roomy(scatteredBools(next, next(40), 2), true)
		b, bytesRoom := roomy(scatteredBytes(next, next(6)), 0x55)
		listHad, bytesHad := slices.Clone(listRoom), slices.Clone(bytesRoom)
		Pack(l)
		Count(l)
		for n := -1; n <= 8*len(b)+1; n++ {
			Unpack(b, n)
		}
		if !slices.Equal(listRoom, listHad) || !slices.Equal(bytesRoom, bytesHad) {
			t.Fatalf("handed in: %s, %s, and it is now %s, %s", toldBools(listHad), toldBytes(bytesHad), toldBools(listRoom), toldBytes(bytesRoom))
		}
	}
}

// spoil writes over an answer and its room.
func spoil[T any](answer []T, with T) {
	answer = answer[:cap(answer)]
	for i := range answer {
		answer[i] = with
	}
}

// P14.3: what is answered is new memory, each time.
func TestWhatIsAnsweredIsNewMemory(t *testing.T) {
	l, listRoom := roomy(bools("tfftftfft"), false)
	b, bytesRoom := roomy([]byte{0x29, 0x01}, 0x55)
	listHad, bytesHad := slices.Clone(listRoom), slices.Clone(bytesRoom)
	first := Pack(l)
	firstRead, _, _ := Unpack(b, 9)
	for range 3 {
		packed := Pack(l)
		spoil(packed, 0xaa)
		read, _, _ := Unpack(b, 9)
		spoil(read, true)
	}
	if !slices.Equal(listRoom, listHad) || !slices.Equal(bytesRoom, bytesHad) {
		t.Errorf("what was answered is what was handed in: %s, %s", toldBools(listRoom), toldBytes(bytesRoom))
	}
	if !slices.Equal(first, bytesHad[:2]) || !slices.Equal(firstRead, listHad[:9]) {
		t.Errorf("what was answered is what had been: %s, %s", toldBytes(first), toldBools(firstRead))
	}
	spoil(l, true)
	spoil(b, 0xaa)
	if !slices.Equal(first, bytesHad[:2]) || !slices.Equal(firstRead, listHad[:9]) {
		t.Errorf("what was handed in is what was answered: %s, %s", toldBytes(first), toldBools(firstRead))
	}
}
