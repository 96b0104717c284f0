package dict

import (
	"math"
	"slices"
	"strings"
	"testing"

	"millstream/api"
)

// P15.1, P15.2 and P15.3: the chapter's examples.
func TestExamples(t *testing.T) {
	wantSplit(t, []string{"b", "a", "b", "", "a"}, []string{"b", "a", ""}, []int{0, 1, 0, 2, 1})
	wantJoin(t, []string{"b", "a"}, []int{0, 1, 1}, []string{"b", "a", "a"}, api.OK)
	wantJoin(t, []string{"b", "a"}, []int{1, 0}, nil, api.ErrDict)
	wantJoin(t, []string{"b", "a"}, []int{0, 0}, nil, api.ErrDict)
	wantJoin(t, []string{"b", "b"}, []int{0, 1}, nil, api.ErrDict)
	bab := []byte{0x02, 0x01, 0x62, 0x01, 0x61, 0x00, 0x01, 0x00}
	wantPut(t, nil, []string{"b", "a", "b"}, bab)
	wantGet(t, bab, 3, 1, []string{"b", "a", "b"}, 8, api.OK)
	wantGet(t, bab, 3, 0, nil, 0, api.ErrLimit)
	wantGet(t, bab, 2, 1, []string{"b", "a"}, 7, api.OK)
	wantGet(t, []byte{0x01, 0x01, 0x62, 0x01}, 1, 9, nil, 0, api.ErrDict)
	wantGet(t, []byte{0x02}, 1, 9, nil, 0, api.ErrLimit)
	wantGet(t, []byte{0x00}, 0, 0, nil, 1, api.OK)
	wantGet(t, nil, 0, 0, nil, 0, api.ErrTrunc)
	wantGet(t, []byte{0x00}, -1, 0, nil, 0, api.ErrRange)
}

// likeTexts are such as begin like each other, or are like each other as something else than bytes.
func likeTexts() []string {
	return []string{"", "a", "A", "aa", "a\x00", "\x00", "\xff", "\xfe", "\ufffd", "\xe9", "\u00e9", "e\u0301", "0", "00", strings.Repeat("a", 1024), strings.Repeat("a", 1023) + "b", strings.Repeat("a", 70000)}
}

// P15.1: texts are the same just if their bytes are.
func TestTextsAreBytes(t *testing.T) {
	texts := likeTexts()
	places := make([]int, len(texts))
	for place := range places {
		places[place] = place
	}
	wantSplit(t, texts, texts, places)
	wantJoin(t, texts, places, texts, api.OK)
	wantSplit(t, slices.Concat(texts, texts), texts, slices.Concat(places, places))
	wantJoin(t, texts, slices.Concat(places, places), slices.Concat(texts, texts), api.OK)
	wantPut(t, nil, texts, wordPut(nil, texts))
	wantGet(t, Put(nil, texts), len(texts), 70000, texts, len(Put(nil, texts)), api.OK)
}

// P15.1 and P15.2: each list of up to six of four texts.
func TestAllShortLists(t *testing.T) {
	lists := 0
	eachList([]string{"b", "", "a", "ab"}, 6, func(l []string) {
		lists++
		d, numbers := wordSplit(l)
		wantSplit(t, l, d, numbers)
		wantJoin(t, d, numbers, l, api.OK)
		wantPut(t, nil, l, wordPut(nil, l))
		wantPut(t, []byte{0x02, 0xff}, l, wordPut([]byte{0x02, 0xff}, l))
	})
	if lists != 1+4+16+64+256+1024+4096 {
		t.Errorf("the test is wrong: %d lists", lists)
	}
}

// P15.1: up to four of three texts, with up to five numbers, are joined to the list that has them, if there is one, else ErrDict.
func TestJoinTakesWhatListsHave(t *testing.T) {
	type split struct{ d, numbers string }
	key := func(d []string, numbers []int) split {
		return split{told(d), toldNumbers(numbers)}
	}
	texts := []string{"a", "", "b"}
	lists := map[split][]string{}
	eachList(texts, 5, func(l []string) {
		lists[key(wordSplit(l))] = l
	})
	joined := 0
	eachList(texts, 4, func(d []string) {
		eachList([]int{0, 1, 2, 3, -1}, 5, func(numbers []int) {
			l, is := lists[key(d, numbers)]
			if !is {
				wantJoin(t, d, numbers, nil, api.ErrDict)
				return
			}
			joined++
			wantJoin(t, d, numbers, l, api.OK)
		})
	})
	if joined != len(lists) || joined != 1+3+9+27+81+243 {
		t.Errorf("the test is wrong: %d joined of %d", joined, len(lists))
	}
}

// P15.1: numbers that are far away are those of no list, nor is one text too many, or one that stands twice, however far behind.
func TestJoinRefuses(t *testing.T) {
	for _, far := range []int{math.MinInt, math.MinInt + 1, math.MinInt32, -256, -1, 2, 3, 256, math.MaxInt32, 1 << 32, 1<<32 + 1, math.MaxInt} {
		wantJoin(t, []string{"a", "b"}, []int{0, 1, far}, nil, api.ErrDict)
		wantJoin(t, []string{"a", "b"}, []int{0, far, 1}, nil, api.ErrDict)
		wantJoin(t, []string{"a", "b"}, []int{far, 0, 1}, nil, api.ErrDict)
		wantJoin(t, nil, []int{far}, nil, api.ErrDict)
	}
	wantJoin(t, nil, []int{0}, nil, api.ErrDict)
	wantJoin(t, []string{""}, nil, nil, api.ErrDict)
	wantJoin(t, nil, nil, nil, api.OK)
	wantJoin(t, []string{}, []int{}, nil, api.OK)
	d, numbers := Split(unlikeTexts(1000))
	wantJoin(t, d, numbers, d, api.OK)
	wantJoin(t, d, numbers[:999], nil, api.ErrDict)
	wantJoin(t, d[:999], numbers, nil, api.ErrDict)
	twice := slices.Concat(d[:999], d[:1])
	wantJoin(t, twice, numbers, nil, api.ErrDict)
	swapped := slices.Concat(numbers[:998], []int{999, 998})
	wantJoin(t, d, swapped, nil, api.ErrDict)
}

// P15.2: a length, a count and a number of more than a byte.
func TestPutOfLongerNumbers(t *testing.T) {
	for many, head := range map[int]string{0: "\x00", 1: "\x01", 127: "\x7f", 128: "\x80\x01", 300: "\xac\x02", 1024: "\x80\x08", 16383: "\xff\x7f", 16384: "\x80\x80\x01"} {
		text := strings.Repeat("x", many)
		wantPut(t, []byte("ahead"), []string{text, text}, []byte("ahead\x01"+head+text+"\x00\x00"))
		wantGet(t, []byte("\x01"+head+text+"\x00\x00"), 2, many, []string{text, text}, 1+len(head)+many+2, api.OK)
		wantGet(t, []byte("\x01"+head+text+"\x00\x00"), 2, many-1, nil, 0, api.ErrLimit)
	}
	l := unlikeTexts(300)
	b := Put(nil, l)
	if string(b[:2]) != "\xac\x02" || string(b[len(b)-4:]) != "\xaa\x02\xab\x02" {
		t.Errorf("300 texts: %s, and at the end % x", toldNumbers(b), b[len(b)-4:])
	}
	wantPut(t, nil, l, wordPut(nil, l))
	wantPut(t, []byte{}, nil, []byte{0x00})
	wantPut(t, []byte{0x80}, []string{}, []byte{0x80, 0x00})
}

// P15.3: how many texts there are to be.
func TestGetOfHowMany(t *testing.T) {
	for _, n := range []int{math.MinInt, math.MinInt32, -2, -1, 1<<20 + 1, 1 << 32, 1<<32 + 1, math.MaxInt} {
		wantGet(t, nil, n, 9, nil, 0, api.ErrRange)
		wantGet(t, []byte{0x80, 0x00}, n, -1, nil, 0, api.ErrRange)
		wantGet(t, []byte{0x01, 0x00, 0x00}, n, 9, nil, 0, api.ErrRange)
	}
	for _, n := range []int{0, 1, 2, 1 << 20} {
		wantGet(t, nil, n, 9, nil, 0, api.ErrTrunc)
		wantGet(t, []byte{0x80}, n, 9, nil, 0, api.ErrTrunc)
		wantGet(t, []byte{0x81, 0x00, 0x00}, n, 9, nil, 0, api.ErrLong)
		wantGet(t, []byte("\xff\xff\xff\xff\xff\xff\xff\xff\xff\x02"), n, 9, nil, 0, api.ErrRange)
		wantGet(t, []byte("\xff\xff\xff\xff\xff\xff\xff\xff\xff\x01"), n, 9, nil, 0, api.ErrLimit)
		wantGet(t, []byte("\x80\x80\x80\x80\x80\x80\x80\x80\x80\x01"), n, 9, nil, 0, api.ErrLimit)
		wantGet(t, []byte("\x80\x80\x80\x80\x10\x00\x00"), n, 9, nil, 0, api.ErrLimit)
		wantGet(t, []byte("\x81\x80\x40\x00\x00"), n, 9, nil, 0, api.ErrLimit)
	}
	wantGet(t, []byte("\x80\x80\x40"), 1<<20, 9, nil, 0, api.ErrTrunc)
	wantGet(t, []byte("\x80\x80\x40"), 1<<20-1, 9, nil, 0, api.ErrLimit)
	wantGet(t, []byte{0x01, 0x00, 0x00}, 0, 9, nil, 0, api.ErrLimit)
	wantGet(t, []byte{0x00, 0x00}, 1, 9, nil, 0, api.ErrDict)
	wantGet(t, []byte{0x00}, 1, 9, nil, 0, api.ErrTrunc)
}

// P15.3: how many bytes a text has.
func TestGetOfHowManyBytes(t *testing.T) {
	for _, most := range []int{0, 1, 1024, math.MaxInt} {
		wantGet(t, []byte{0x01}, 1, most, nil, 0, api.ErrTrunc)
		wantGet(t, []byte{0x01, 0x80}, 1, most, nil, 0, api.ErrTrunc)
		wantGet(t, []byte{0x01, 0x80, 0x00}, 1, most, nil, 0, api.ErrLong)
		wantGet(t, []byte("\x01\xff\xff\xff\xff\xff\xff\xff\xff\xff\x02"), 1, most, nil, 0, api.ErrRange)
		wantGet(t, []byte("\x01\xff\xff\xff\xff\xff\xff\xff\xff\xff\x01"), 1, most, nil, 0, api.ErrLimit)
		wantGet(t, []byte("\x01\x80\x80\x80\x80\x80\x80\x80\x80\x80\x01"), 1, most, nil, 0, api.ErrLimit)
		wantGet(t, []byte{0x01, 0x00, 0x00}, 1, most, []string{""}, 3, api.OK)
	}
	for _, most := range []int{math.MinInt, math.MinInt32, -1} {
		wantGet(t, []byte{0x01, 0x00, 0x00}, 1, most, nil, 0, api.ErrLimit)
		wantGet(t, []byte{0x01, 0x05, 0x00}, 1, most, nil, 0, api.ErrLimit)
		wantGet(t, []byte{0x01, 0x80}, 1, most, nil, 0, api.ErrTrunc)
		wantGet(t, []byte{0x00}, 0, most, nil, 1, api.OK)
		wantGet(t, []byte{0x00, 0x00}, 1, most, nil, 0, api.ErrDict)
	}
	wantGet(t, []byte("\x01\xff\xff\xff\xff\xff\xff\xff\xff\x7f"), 1, math.MaxInt, nil, 0, api.ErrTrunc)
	wantGet(t, []byte("\x01\xff\xff\xff\xff\xff\xff\xff\xff\x7f"), 1, math.MaxInt-1, nil, 0, api.ErrLimit)
	wantGet(t, []byte{0x01, 0x02, 'x'}, 1, 2, nil, 0, api.ErrTrunc)
	wantGet(t, []byte{0x01, 0x02, 'x'}, 1, 1, nil, 0, api.ErrLimit)
	wantGet(t, []byte{0x01, 0x01, 'x'}, 1, 1, nil, 0, api.ErrTrunc)
	wantGet(t, []byte{0x02, 0x01, 'x', 0x02, 'x'}, 2, 1, nil, 0, api.ErrLimit)
}

// P15.3: a text that is there already, told where it stands, ahead of what is wrong behind it.
func TestGetOfTextsThatStandTwice(t *testing.T) {
	wantGet(t, []byte{0x02, 0x01, 'x', 0x01, 'x', 0x00, 0x01}, 2, 1, nil, 0, api.ErrDict)
	wantGet(t, []byte{0x02, 0x00, 0x00}, 2, 0, nil, 0, api.ErrDict)
	wantGet(t, []byte{0x02, 0x01, 'x', 0x01, 'x', 0x80, 0x00}, 2, 1, nil, 0, api.ErrDict)
	wantGet(t, []byte{0x03, 0x01, 'x', 0x01, 'x', 0x02, 'y'}, 3, 1, nil, 0, api.ErrDict)
	wantGet(t, []byte{0x03, 0x01, 'x', 0x02, 'x', 'x', 0x01, 'x'}, 3, 2, nil, 0, api.ErrDict)
	wantGet(t, []byte{0x03, 0x01, 'x', 0x03, 'x', 'x', 0x01, 'x'}, 3, 2, nil, 0, api.ErrLimit)
}

// P15.3: a number is one of a text, and not more than were used ahead; at last all were used.
func TestGetOfNumbers(t *testing.T) {
	ab := []byte{0x02, 0x01, 'a', 0x01, 'b'}
	for _, c := range []struct {
		numbers string
		n       int
		l       string
		e       api.Errno
	}{
		{"\x00\x01", 2, "ab", api.OK},
		{"\x00\x01\x02", 2, "ab", api.OK},
		{"\x00\x01\x80", 2, "ab", api.OK},
		{"\x00\x01\x01\x00", 4, "abba", api.OK},
		{"\x00\x00\x00\x01", 4, "aaab", api.OK},
		{"\x00\x00\x00\x01", 3, "", api.ErrDict},
		{"\x00\x00", 2, "", api.ErrDict},
		{"\x01\x00", 2, "", api.ErrDict},
		{"\x01", 2, "", api.ErrDict},
		{"\x00\x02", 2, "", api.ErrDict},
		{"\x00\x01\x02", 3, "", api.ErrDict},
		{"\x00\x00", 3, "", api.ErrTrunc},
		{"\x00\x01", 3, "", api.ErrTrunc},
		{"", 2, "", api.ErrTrunc},
		{"\x00\x80", 2, "", api.ErrTrunc},
		{"\x00\x80\x00", 2, "", api.ErrLong},
		{"\x00\x81\x00", 2, "", api.ErrLong},
		{"\x01\x80\x00", 2, "", api.ErrDict},
		{"\x00\x80\x80\x80\x80\x10", 2, "", api.ErrDict},
		{"\x00\x81\x80\x80\x80\x10", 2, "", api.ErrDict},
		{"\x00\xff\xff\xff\xff\xff\xff\xff\xff\xff\x01", 2, "", api.ErrDict},
		{"\x00\x80\x80\x80\x80\x80\x80\x80\x80\x80\x01", 2, "", api.ErrDict},
		{"\x00\x81\x80\x80\x80\x80\x80\x80\x80\x80\x01", 2, "", api.ErrDict},
		{"\x00\xff\xff\xff\xff\xff\xff\xff\xff\xff\x02", 2, "", api.ErrRange},
	} {
		b, size := slices.Concat(ab, []byte(c.numbers)), 0
		var l []string
		if c.e == api.OK {
			size, l = len(ab)+c.n, strings.Split(c.l, "")
		}
		wantGet(t, b, c.n, 1, l, size, c.e)
	}
}

// P15.3: each text of up to six of some telling bytes, of so many texts and so long ones.
func TestGetOfAllShortBytes(t *testing.T) {
	count := map[api.Errno]int{}
	eachList([]byte{0x00, 0x01, 0x02, 0x03, 0x80, 0x61}, 6, func(b []byte) {
		for n := -1; n <= 4; n++ {
			for most := -1; most <= 2; most++ {
				count[wantGetOfTheWords(t, b, n, most)]++
			}
		}
	})
	for _, e := range []api.Errno{api.OK, api.ErrRange, api.ErrTrunc, api.ErrLimit, api.ErrDict, api.ErrLong} {
		if count[e] < 1000 {
			t.Errorf("the test is wrong: %v", count)
		}
	}
}

// P15.3: what was put, with a byte changed, put in or taken away, and its beginnings.
func TestGetOfSpoiltBytes(t *testing.T) {
	count := map[api.Errno]int{}
	eachList([]string{"", "a", "\x01b"}, 4, func(l []string) {
		b := Put(nil, l)
		look := func(b []byte) {
			for n := max(0, len(l)-1); n <= len(l)+1; n++ {
				for most := range 3 {
					count[wantGetOfTheWords(t, b, n, most)]++
				}
			}
		}
		for at := range b {
			look(b[:at])
			look(slices.Delete(slices.Clone(b), at, at+1))
			for _, c := range []byte{0x00, 0x01, 0x02, 0x03, 0x04, 0x61, 0x7f, 0x80, 0xff} {
				look(slices.Concat(b[:at], []byte{c}, b[at+1:]))
				look(slices.Insert(slices.Clone(b), at, c))
			}
		}
	})
	for _, e := range []api.Errno{api.OK, api.ErrTrunc, api.ErrLimit, api.ErrDict, api.ErrLong} {
		if count[e] < 1000 {
			t.Errorf("the test is wrong: %v", count)
		}
	}
}

// P15.1 to P15.3: at the limit of texts, and above it, where there may be a list, but none that is got.
func TestManyTexts(t *testing.T) {
	l := unlikeTexts(1<<20 + 1)
	places := make([]int, len(l))
	for place := range places {
		places[place] = place
	}
	for _, many := range []int{1<<20 - 1, 1 << 20, 1<<20 + 1} {
		wantSplit(t, l[:many], l[:many], places[:many])
		wantJoin(t, l[:many], places[:many], l[:many], api.OK)
	}
	b := Put([]byte{0x07}, l[:1<<20])[1:]
	wantGet(t, b, 1<<20, 8, l[:1<<20], len(b), api.OK)
	wantGet(t, b, 1<<20, 7, nil, 0, api.ErrLimit)
	wantGet(t, b, 1<<20-1, 8, nil, 0, api.ErrLimit)
	wantGet(t, b[:len(b)-1], 1<<20, 8, nil, 0, api.ErrTrunc)
	b = Put(nil, l)
	wantGet(t, b, 1<<20+1, 8, nil, 0, api.ErrRange)
	wantGet(t, b, 1<<20, 8, nil, 0, api.ErrLimit)
	same := slices.Repeat([]string{"x"}, 1<<20+1)
	wantSplit(t, same, []string{"x"}, make([]int, 1<<20+1))
	b = Put(nil, same)
	wantPut(t, nil, same, slices.Concat([]byte{0x01, 0x01, 'x'}, make([]byte, 1<<20+1)))
	wantGet(t, b, 1<<20, 1, same[:1<<20], 1<<20+3, api.OK)
	wantGet(t, b, 1<<20+1, 1, nil, 0, api.ErrRange)
}

// roomy is a list with spare room behind it, and the list with that room.
func roomy[T any](list []T, spare T) (l, room []T) {
	room = append(slices.Clone(list), spare, spare, spare, spare, spare, spare, spare, spare, spare, spare, spare)
	return room[:len(list):len(room)], room
}

// spoil writes over a list and its room.
func spoil[T any](l []T, with T) {
	l = l[:cap(l)]
	for i := range l {
		l[i] = with
	}
}

// P15.4: what is handed in is only read, its spare room neither written to.
func TestWhatIsHandedInIsOnlyRead(t *testing.T) {
	next := scatter()
	for range 500 {
		list := scatteredList(next, next(20))
		wordD, wordN := wordSplit(list)
		l, listRoom := roomy(list, "z")
		d, dRoom := roomy(wordD, "z")
		numbers, numbersRoom := roomy(wordN, 77)
		b, bytesRoom := roomy(wordPut(nil, list), 0x55)
		listHad, dHad, numbersHad, bytesHad := slices.Clone(listRoom), slices.Clone(dRoom), slices.Clone(numbersRoom), slices.Clone(bytesRoom)
		Split(l)
		Join(d, numbers)
		Join(l, numbers)
		Put(b, l)
		Put(b[:0], l)
		for n := -1; n <= len(l)+1; n++ {
			Get(b, n, 9)
		}
		if !slices.Equal(listRoom, listHad) || !slices.Equal(dRoom, dHad) || !slices.Equal(numbersRoom, numbersHad) || !slices.Equal(bytesRoom, bytesHad) {
			t.Fatalf("handed in: %s, %s, %s, %s, and it is now %s, %s, %s, %s", told(listHad), told(dHad), toldNumbers(numbersHad), toldNumbers(bytesHad), told(listRoom), told(dRoom), toldNumbers(numbersRoom), toldNumbers(bytesRoom))
		}
	}
}

// answers are those of all calls of one list, which is new in each of them.
type answers struct {
	d       []string
	numbers []int
	joined  []string
	put     []byte
	got     []string
}

func answersOf(l, d []string, numbers []int, head, b []byte) answers {
	var a answers
	a.d, a.numbers = Split(l)
	a.joined, _ = Join(d, numbers)
	a.put = Put(head, l)
	a.got, _, _ = Get(b, len(l), 9)
	return a
}

func (a answers) are(other answers) bool {
	return slices.Equal(a.d, other.d) && slices.Equal(a.numbers, other.numbers) && slices.Equal(a.joined, other.joined) && slices.Equal(a.put, other.put) && slices.Equal(a.got, other.got)
}

func (a answers) spoil() {
	spoil(a.d, "spoilt")
	spoil(a.numbers, 99)
	spoil(a.joined, "spoilt")
	spoil(a.put, 0xaa)
	spoil(a.got, "spoilt")
}

// P15.4: what is answered is new memory, each time, also where it is just what was handed in.
func TestWhatIsAnsweredIsNewMemory(t *testing.T) {
	for _, list := range [][]string{{"a", "bc", "", "d"}, {"a", "bc", "a"}, {"a"}, {"", ""}} {
		wordD, wordN := wordSplit(list)
		want := answers{wordD, wordN, list, wordPut([]byte{0x01}, list), list}
		l, d, numbers := slices.Clone(list), slices.Clone(wordD), slices.Clone(wordN)
		head, _ := roomy([]byte{0x01}, 0x55)
		b := wordPut(nil, list)
		first := answersOf(l, d, numbers, head, b)
		for range 3 {
			more := answersOf(l, d, numbers, head, b)
			if !more.are(want) {
				t.Fatalf("of %s: %+v, not %+v", told(list), more, want)
			}
			more.spoil()
		}
		if !first.are(want) {
			t.Errorf("of %s, what was answered is what had been: %+v", told(list), first)
		}
		spoil(l, "handed in")
		spoil(d, "handed in")
		spoil(numbers, 88)
		spoil(head, 0xbb)
		spoil(b, 0xbb)
		if !first.are(want) {
			t.Errorf("of %s, what was handed in is what was answered: %+v", told(list), first)
		}
	}
}
