package jread

import (
	"fmt"
	"slices"
	"strings"
	"testing"

	"millstream/api"
	"millstream/tape"
)

// P7.3: what is read may be, at the bounds of nodes and depth, too.
func TestWhatIsReadMayBe(t *testing.T) {
	next := scatter()
	sp := scattered(next)
	texts := []string{"[" + nulls(3999) + "]", strings.Repeat("[", 64) + strings.Repeat("]", 64), strings.Repeat(`{"a":`, 63) + "1" + strings.Repeat("}", 63), `{"":{"":null},"a":[]}`, "-0"}
	for _, v := range someValues(1000) {
		texts = append(texts, sp.value(v))
	}
	for _, s := range texts {
		l, at, e := Parse(s)
		if e != api.OK || at != 0 || tape.Check(l) != api.OK {
			t.Errorf("%s: %d at %d; Check: %d", short(s), e, at, tape.Check(l))
		}
		for range 20 {
			at := next(len(s) + 1)
			spoilt := s[:at] + []string{" ", "1", ",1", `,"a":1`, "[", "]", "{}"}[next(7)] + s[at:]
			if l, _, e := Parse(spoilt); (e == api.OK) != (tape.Check(l) == api.OK) {
				t.Errorf("%s: %d; Check: %d", short(spoilt), e, tape.Check(l))
			}
		}
	}
}

// P7.4: a value's texts say the same, whatever blanks stand between parts, and however literals are spelt.
func TestSpellingsSayTheSame(t *testing.T) {
	next := scatter()
	for _, v := range someValues(1000) {
		want := v.nodes("")
		wantTape(t, tidy().value(v), want)
		for range 5 {
			wantTape(t, scattered(next).value(v), want)
		}
		for _, blank := range []string{" ", "\t", "\n", "\r", "\r\n \t"} {
			parts := tidy().parts(v)
			wantTape(t, strings.Join(parts, blank), want)
			at := next(len(parts) + 1)
			wantTape(t, strings.Join(parts[:at], "")+blank+strings.Join(parts[at:], ""), want)
		}
	}
	for _, text := range someTexts() {
		for _, r := range text {
			for _, spelt := range runeSpellings(r) {
				wantTape(t, `"`+spelt+`"`, []api.Node{{Kind: api.KStr, S: string(r), Size: 1}})
				wantTape(t, `{"`+spelt+`":null}`, []api.Node{{Kind: api.KObj, Size: 2}, {Kind: api.KNull, Key: string(r), Size: 1}})
			}
		}
	}
}

// P7.4: within a word, a number, or a literal blanks do change something.
func TestBlanksWithinParts(t *testing.T) {
	for _, part := range []string{"null", "false", "true", "12", "-1", "-345"} {
		for at := 1; at < len(part); at++ {
			for _, blank := range allBlanks {
				s := part[:at] + string(blank) + part[at:]
				want := at
				if part[at-1] >= '0' && part[at-1] <= '9' {
					want++ // what stands ahead is a number by itself
				}
				wantWrong(t, s, want, api.ErrJson)
				wantWrong(t, "["+s+"]", want+1, api.ErrJson)
			}
		}
	}
	wantTape(t, `" a  b "`, []api.Node{{Kind: api.KStr, S: " a  b ", Size: 1}})
	wantTape(t, `{" ":1,"  ":2}`, []api.Node{{Kind: api.KObj, Size: 3}, {Kind: api.KNum, Key: " ", N: 1, Size: 1}, {Kind: api.KNum, Key: "  ", N: 2, Size: 1}})
	wantWrong(t, "\"a\tb\"", 0, api.ErrEscape)
}

// P7.5: a text that is cut off ahead of its value's end is none: within a literal that is ErrTrunc where it begins, else ErrJson at the end. Of a number what is left may be one.
func TestCutOffTexts(t *testing.T) {
	next := scatter()
	sp := scattered(next)
	for _, v := range someValues(1000) {
		s := strings.TrimRight(sp.value(v), allBlanks)
		for at := range len(s) {
			cut := s[:at]
			left := strings.TrimLeft(cut, allBlanks)
			got, place, e := Parse(cut)
			switch {
			case v.kind == api.KNum && wordNumber.MatchString(left):
				if e != api.OK || fmt.Sprint(got[0].N) != left && left != "-0" {
					t.Errorf("%q: %v, %d at %d", cut, got, e, place)
				}
			case len(got) > 0 || e != api.ErrJson && e != api.ErrTrunc || e == api.ErrJson && place != at || e == api.ErrTrunc && s[place] != '"':
				t.Errorf("%q: %v, %d at %d", cut, got, e, place)
			}
			wantWords(t, cut)
		}
	}
	wantTape(t, "12", []api.Node{{Kind: api.KNum, N: 12, Size: 1}})
	wantTape(t, "1", []api.Node{{Kind: api.KNum, N: 1, Size: 1}})
	wantWrong(t, "-", 1, api.ErrJson)
}

// P7.6: the texts of values, with commas between them, in [ and ], or below keys in { and }, are read as the list, or the object, of what these say.
func TestTextsOfPartsTogether(t *testing.T) {
	next := scatter()
	sp := scattered(next)
	all := someValues(1000)
	keys := someTexts()
	for many := range 300 {
		var texts, members []string
		var parts [][]api.Node
		many %= 8
		for i := range many {
			v := all[next(len(all))]
			s := sp.value(v)
			part, _, e := Parse(s)
			if e != api.OK || !slices.Equal(part, v.nodes("")) {
				t.Fatalf("%q: %v, %d", s, part, e)
			}
			texts = append(texts, s)
			members = append(members, sp.blank()+sp.literal(keys[i])+sp.blank()+":"+s)
			parts = append(parts, part)
		}
		list, le := tape.List(parts)
		object, oe := tape.Obj(keys[:many], parts)
		if le != api.OK || oe != api.OK {
			t.Fatalf("the test is wrong: %d, %d", le, oe)
		}
		wantTape(t, "["+strings.Join(texts, ",")+"]", list)
		wantTape(t, "{"+strings.Join(members, ",")+"}", object)
	}
}

// P7.6: what is no text by itself makes the list, or the object, none, with that error.
func TestWrongTextsTogether(t *testing.T) {
	for _, s := range []string{"01", "1.5", "-", `"\x"`, "\"\xff\"", `{"a":1,"a":2}`, "tru", "x", `{"a" 1}`, "[1 2]", "9223372036854775808"} {
		_, at, e := Parse(s)
		if e == api.OK {
			t.Errorf("the test is wrong: %q", s)
		}
		// An error at the text's end becomes one at the comma behind it.
		wantWrong(t, "[1,"+s+",2]", at+3, e)
		wantWrong(t, `{"b":1,"c":`+s+`,"d":2}`, at+11, e)
	}
}
