package dict

import (
	"slices"
	"testing"

	"millstream/api"
)

// P15.5: what is split is joined as it was.
func TestWhatIsSplitIsJoined(t *testing.T) {
	next := scatter()
	for many := range 5000 {
		l := scatteredList(next, many%60)
		d, numbers := Split(l)
		wantJoin(t, d, numbers, l, api.OK)
	}
	for _, l := range [][]string{nil, {}, {""}, likeTexts(), unlikeTexts(70000)} {
		d, numbers := Split(l)
		wantJoin(t, d, numbers, l, api.OK)
	}
}

// P15.5: what can be joined is split to just those texts and numbers.
func TestWhatCanBeJoinedIsSplit(t *testing.T) {
	joined, refused := 0, 0
	eachList([]string{"a", "", "aa"}, 4, func(d []string) {
		eachList([]int{-1, 0, 1, 2, 3}, 5, func(numbers []int) {
			l, e := Join(d, numbers)
			if e != api.OK {
				refused++
				return
			}
			joined++
			wantSplit(t, l, d, numbers)
		})
	})
	if joined < 300 || refused < 1000 {
		t.Errorf("the test is wrong: %d joined, %d refused", joined, refused)
	}
}

// longest is how many bytes the longest one has.
func longest(l []string) int {
	most := 0
	for _, text := range l {
		most = max(most, len(text))
	}
	return most
}

// P15.6: what is put is got as it was, whatever stands behind, if no text is too long.
func TestWhatIsPutIsGot(t *testing.T) {
	next := scatter()
	for many := range 5000 {
		l := scatteredList(next, many%60)
		b, most := Put(nil, l), longest(l)
		for _, behind := range []string{"", "\x00", "\x80", "\xff\xff", scatteredText(next)} {
			wantGet(t, append(slices.Clone(b), behind...), len(l), most, l, len(b), api.OK)
			wantGet(t, append(slices.Clone(b), behind...), len(l), most+next(2000), l, len(b), api.OK)
		}
		wantGet(t, Put([]byte("ahead"), l)[5:], len(l), most, l, len(b), api.OK)
		if many%60 > 0 {
			wantGet(t, b, len(l), most-1, nil, 0, api.ErrLimit)
			wantGet(t, b[:next(len(b))], len(l), most, nil, 0, api.ErrTrunc)
		}
	}
	for _, l := range [][]string{likeTexts(), unlikeTexts(70000)} {
		b := Put(nil, l)
		wantGet(t, append(slices.Clone(b), 0x00), len(l), longest(l), l, len(b), api.OK)
	}
}

// P15.6: lists that are put one behind the other are got so.
func TestListsAreGotOneBehindTheOther(t *testing.T) {
	next := scatter()
	for range 500 {
		var b []byte
		lists := make([][]string, next(6))
		for i := range lists {
			lists[i] = scatteredList(next, next(20))
			b = Put(b, lists[i])
		}
		for _, l := range lists {
			size := len(Put(nil, l))
			wantGet(t, b, len(l), 9, l, size, api.OK)
			b = b[size:]
		}
		if len(b) > 0 {
			t.Fatalf("%s is left", toldNumbers(b))
		}
	}
}

// P15.6: what can be got is put as just those bytes.
func TestWhatCanBeGotIsPut(t *testing.T) {
	got := 0
	look := func(b []byte, n, most int) {
		l, size, e := Get(b, n, most)
		if e != api.OK {
			return
		}
		got++
		wantPut(t, nil, l, b[:size])
		if len(l) != n || longest(l) > most {
			t.Fatalf("Get of %s, %d, %d: %s", toldNumbers(b), n, most, told(l))
		}
	}
	eachList([]byte{0x00, 0x01, 0x02, 0x03, 0x80, 0x81}, 6, func(b []byte) {
		for n := range 5 {
			look(b, n, 3)
		}
	})
	next := scatter()
	for range 30000 {
		l := scatteredList(next, next(12))
		b := Put(nil, l)
		b[next(len(b))] = byte(next(1 + next(256)))
		look(b, len(l), 9)
	}
	if got < 5000 {
		t.Errorf("the test is wrong: %d got", got)
	}
}

// P15.7: there are as many texts as are unlike, numbers are the same just if the texts are, and the first one is 0.
func TestNumbersAreThoseOfTheTexts(t *testing.T) {
	next := scatter()
	for many := range 3000 {
		l := scatteredList(next, many%40)
		d, numbers := Split(l)
		unlike := map[string]bool{}
		for _, text := range l {
			unlike[text] = true
		}
		if len(d) != len(unlike) || len(numbers) != len(l) {
			t.Fatalf("Split of %s: %s, %s", told(l), told(d), toldNumbers(numbers))
		}
		if len(l) > 0 && numbers[0] != 0 {
			t.Fatalf("Split of %s: the first number is %d", told(l), numbers[0])
		}
		for i, one := range numbers {
			for j, other := range numbers {
				if (one == other) != (l[i] == l[j]) {
					t.Fatalf("Split of %s: the numbers of the places %d and %d are %d and %d", told(l), i, j, one, other)
				}
			}
		}
	}
}
