package dict

import (
	"fmt"
	"math/rand/v2"
	"slices"
	"testing"

	"millstream/api"
	"millstream/leb"
)

// wordSplit is the section Words: the texts that are not found ahead, and of each place where its text is found.
func wordSplit(l []string) (d []string, numbers []int) {
	for place, text := range l {
		if slices.Index(l, text) == place {
			d = append(d, text)
		}
	}
	for _, text := range l {
		numbers = append(numbers, slices.Index(d, text))
	}
	return d, numbers
}

// wordPut is P15.2, piece by piece.
func wordPut(b []byte, l []string) []byte {
	d, numbers := wordSplit(l)
	pieces := [][]byte{b, leb.Put(nil, uint64(len(d)))}
	for _, text := range d {
		pieces = append(pieces, leb.Put(nil, uint64(len(text))), []byte(text))
	}
	for _, number := range numbers {
		pieces = append(pieces, leb.Put(nil, uint64(number)))
	}
	return slices.Concat(pieces...)
}

// wordGet is P15.3, sentence by sentence.
func wordGet(b []byte, n, most int) ([]string, int, api.Errno) {
	if n < 0 || n > 1048576 {
		return nil, 0, 6
	}
	left := b
	many, size, e := leb.Get(left)
	if e != 0 {
		return nil, 0, e
	}
	if greater(many, n) {
		return nil, 0, 5
	}
	left = left[size:]
	var texts []string
	for uint64(len(texts)) != many {
		length, size, e := leb.Get(left)
		if e != 0 {
			return nil, 0, e
		}
		left = left[size:]
		if greater(length, most) {
			return nil, 0, 5
		}
		if greater(length, len(left)) {
			return nil, 0, 3
		}
		text := string(left[:length])
		if slices.Contains(texts, text) {
			return nil, 0, 150
		}
		texts, left = append(texts, text), left[length:]
	}
	l, size, e := wordNumbers(left, n, texts)
	if e != 0 {
		return nil, 0, e
	}
	return l, len(b) - len(left) + size, 0
}

// wordNumbers is the end of P15.3.
func wordNumbers(b []byte, n int, texts []string) ([]string, int, api.Errno) {
	var l []string
	left, used := b, map[uint64]bool{}
	for len(l) != n {
		number, size, e := leb.Get(left)
		if e != 0 {
			return nil, 0, e
		}
		if number >= uint64(len(texts)) || number > uint64(len(used)) {
			return nil, 0, 150
		}
		used[number] = true
		l, left = append(l, texts[number]), left[size:]
	}
	if len(used) != len(texts) {
		return nil, 0, 150
	}
	return l, len(b) - len(left), 0
}

// greater tells whether a number is greater than one that may be below 0.
func greater(n uint64, than int) bool {
	return than < 0 || n > uint64(than)
}

// eachList hands over all lists of up to so many of these.
func eachList[T any](of []T, most int, do func(l []T)) {
	var grow func(l []T)
	grow = func(l []T) {
		do(slices.Clone(l))
		if len(l) == most {
			return
		}
		for _, one := range of {
			grow(append(slices.Clone(l), one))
		}
	}
	grow(nil)
}

// scatter answers numbers below a limit that lie scattered, the same ones in each run.
func scatter() func(below int) int {
	return rand.New(rand.NewPCG(15, 15)).IntN
}

// scatteredText has any bytes, few ones mostly.
func scatteredText(next func(below int) int) string {
	text := make([]byte, next(1+next(5)))
	for i := range text {
		text[i] = byte(next(1 + next(256)))
	}
	return string(text)
}

// scatteredList has so many texts, of some that come again and again.
func scatteredList(next func(below int) int, many int) []string {
	texts := make([]string, 1+next(12))
	for i := range texts {
		texts[i] = scatteredText(next)
	}
	l := make([]string, many)
	for i := range l {
		l[i] = texts[next(len(texts))]
	}
	return l
}

// unlikeTexts are so many, in no order of theirs.
func unlikeTexts(many int) []string {
	l := make([]string, many)
	for i := range l {
		l[i] = fmt.Sprintf("%x", uint32(i)*2654435761)
	}
	return l
}

// told is a text for a list, of a long one its beginning.
func told(l []string) string {
	return fmt.Sprintf("(%d) %.80q", len(l), l[:min(len(l), 12)])
}

// toldNumbers is told of numbers, and of bytes.
func toldNumbers[T int | byte](l []T) string {
	return fmt.Sprintf("(%d) %x", len(l), l[:min(len(l), 24)])
}

func wantSplit(t *testing.T, l, wantD []string, wantNumbers []int) {
	t.Helper()
	d, numbers := Split(l)
	if !slices.Equal(d, wantD) || !slices.Equal(numbers, wantNumbers) {
		t.Fatalf("Split of %s: %s, %s, not %s, %s", told(l), told(d), toldNumbers(numbers), told(wantD), toldNumbers(wantNumbers))
	}
}

func wantJoin(t *testing.T, d []string, numbers []int, want []string, wantE api.Errno) {
	t.Helper()
	l, e := Join(d, numbers)
	if !slices.Equal(l, want) || e != wantE {
		t.Fatalf("Join of %s, %s: %s, %d, not %s, %d", told(d), toldNumbers(numbers), told(l), e, told(want), wantE)
	}
}

func wantPut(t *testing.T, b []byte, l []string, want []byte) {
	t.Helper()
	if put := Put(b, l); !slices.Equal(put, want) {
		t.Fatalf("Put of %s, %s: %s, not %s", toldNumbers(b), told(l), toldNumbers(put), toldNumbers(want))
	}
}

func wantGet(t *testing.T, b []byte, n, most int, want []string, wantSize int, wantE api.Errno) {
	t.Helper()
	l, size, e := Get(b, n, most)
	if !slices.Equal(l, want) || size != wantSize || e != wantE {
		t.Fatalf("Get of %s, %d, %d: %s, %d, %d, not %s, %d, %d", toldNumbers(b), n, most, told(l), size, e, told(want), wantSize, wantE)
	}
}

// wantGetOfTheWords holds Get against that of the words, whose error is answered.
func wantGetOfTheWords(t *testing.T, b []byte, n, most int) api.Errno {
	t.Helper()
	l, size, e := wordGet(b, n, most)
	wantGet(t, b, n, most, l, size, e)
	return e
}
