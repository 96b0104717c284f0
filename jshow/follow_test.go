package jshow

import (
	"fmt"
	"slices"
	"strings"
	"testing"

	"millstream/api"
	"millstream/jread"
	"millstream/tape"
)

// wantRead tells whether what is shown of nodes is read as these.
func wantRead(t *testing.T, l []api.Node) {
	t.Helper()
	shown, e := Show(l)
	if e != api.OK {
		t.Errorf("Show of %v: %d", l, e)
	}
	if got, at, e := jread.Parse(shown); !slices.Equal(got, l) || at != 0 || e != api.OK {
		t.Errorf("%s, shown of %v, is read as %v, %d, %d", short(shown), l[:min(len(l), 9)], got[:min(len(got), 9)], at, e)
	}
}

// P8.3: what is shown is read as the tape that it is of, at the bounds, too; what Canon is, is read as the sorted one.
func TestWhatIsShownIsRead(t *testing.T) {
	for _, l := range [][]api.Node{example(), nulls(3999), nulls(0), nested(api.KList, 64), nested(api.KObj, 64), tape.Str(filler(most - 2)), tape.Null()} {
		wantRead(t, l)
	}
	for _, v := range someValues(3000) {
		l := v.nodes("")
		wantRead(t, l)
		canon, _ := Canon(l)
		if got, _, e := jread.Parse(canon); !slices.Equal(got, v.inOrder(rising).nodes("")) || e != api.OK {
			t.Errorf("%q, of %v, is read as %v, %d", canon, l, got, e)
		}
	}
	for _, n := range someNumbers() {
		for near := n - 3; near-n <= 3; near++ { // also round the ends
			wantRead(t, tape.Num(near))
		}
	}
}

// wantNoShorter tells, of a text that is read, whether what is shown of its tape is no longer.
func wantNoShorter(t *testing.T, s string) bool {
	t.Helper()
	l, _, e := jread.Parse(s)
	if e != api.OK {
		return false
	}
	if shown, e := Show(l); len(shown) > len(s) || e != api.OK {
		t.Errorf("%q is shorter than %q, %d", s, shown, e)
	}
	return true
}

// P8.3: of all texts of a few pieces none that is read is shorter than what is shown of it.
func TestNoShortTextIsShorter(t *testing.T) {
	read := 0
	var grow func(s string, pieces []string, left int)
	grow = func(s string, pieces []string, left int) {
		if wantNoShorter(t, s) {
			read++
		}
		for i := 0; left > 0 && i < len(pieces); i++ {
			grow(s+pieces[i], pieces, left-1)
		}
	}
	grow("", strings.Split(` []{},:"\n01-`, ""), 5)
	grow("", []string{"[", "]", "{", "}", ",", ":", `"a"`, `"\u0061"`, "-0", "null", "\n"}, 5)
	grow(`"`, []string{`"`, `\"`, `\\`, `\/`, "/", `\n`, `\u000a`, `\u0000`, `\u00e4`, "\u00e4", `\ud83d\ude00`}, 5)
	if read < 10000 {
		t.Errorf("the test is wrong: %d", read)
	}
}

// P8.3: nor is one that a value is spelt as in another way, or that is left of what is shown.
func TestNoOtherSpellingIsShorter(t *testing.T) {
	next := scatter()
	literal := func(text string) string {
		s := `"`
		for _, r := range text {
			spelt := tidyLiteral(string(r))
			spelt = spelt[1 : len(spelt)-1]
			if r < 0x10000 && next(2) == 0 {
				spelt = fmt.Sprintf(`\u%04X`, r)
			}
			s += spelt
		}
		return s + `"`
	}
	for _, v := range someValues(600) {
		l := v.nodes("")
		spelt := strings.Join(v.pieces(literal), []string{"", " ", "\n"}[next(3)])
		if got, _, e := jread.Parse(spelt); !slices.Equal(got, l) || e != api.OK {
			t.Errorf("the test is wrong: %q: %v, %d", spelt, got, e)
		}
		wantNoShorter(t, spelt)
		shown, _ := Show(l)
		for from := range len(shown) {
			for size := 1; size <= 8 && from+size <= len(shown); size++ {
				left := shown[:from] + shown[from+size:]
				if got, _, e := jread.Parse(left); e == api.OK && slices.Equal(got, l) {
					t.Errorf("%q is read as %q is", left, shown)
				}
			}
		}
	}
}

// easilyMistaken are texts of values of which no two say the same.
func easilyMistaken() []string {
	return []string{
		"null", `"null"`, "[null]", "true", `"true"`, "false", "0", `"0"`, "1", "-1", `"1"`, "[1]", "10", "[10]", "[1,0]", "[0,1]", `["1,0"]`, `""`, `[""]`, `" "`,
		"[]", "{}", "[[]]", "[{}]", `{"":{}}`, `{"":[]}`, `{"":""}`, "[[],[]]", "[[[]]]", "[[1],2]", "[1,[2]]", "[[1,2]]", "[1,2]", "[2,1]", "[[1],[2]]",
		`{"a":1}`, `["a",1]`, `{"a":"1"}`, `{"1":"a"}`, `{"A":1}`, `{"a":1,"b":2}`, `{"a":2,"b":1}`, `{"a":{"b":2}}`, `{"a":[1,{"b":2}]}`, `{"a":1,"b":{}}`, `{"a":{},"b":1}`, `{"ab":1}`, `{"a":{"b":1}}`, `{"b":{"a":1}}`,
		`"\""`, `"\\\""`, `"\\"`, `"\\\\"`, `"\n"`, `"\\n"`, `"n"`, `"\u0000"`, `"\\u0000"`, `"/"`, `"\\/"`, "\"\u00e4\"", "\"a\u0308\"", `"\",\""`, `["",""]`, `["\",\""]`,
	}
}

// P8.4: two tapes say the same just if Canon is the same: held against Same, of each two of scattered ones, of their other orders, and of such as are easily mistaken.
func TestSameJustIfCanonIs(t *testing.T) {
	var tapes [][]api.Node
	for _, s := range easilyMistaken() {
		l, _, e := jread.Parse(s)
		if e != api.OK {
			t.Errorf("the test is wrong: %q: %d", s, e)
		}
		tapes = append(tapes, l)
	}
	mistaken := len(tapes)
	next := scatter()
	for _, v := range someValues(200) {
		tapes = append(tapes, v.nodes(""), v.inOrder(falling).nodes(""), v.inOrder(shuffled(next)).nodes(""))
	}
	canons := make([]string, len(tapes))
	for i, l := range tapes {
		canon, e := Canon(l)
		if e != api.OK {
			t.Errorf("Canon of %v: %d", l, e)
		}
		canons[i] = canon
	}
	otherwise := 0
	for i, a := range tapes {
		for j, b := range tapes[:i+1] {
			same := tape.Same(a, b)
			if same != (canons[i] == canons[j]) || same != (i == j) && i < mistaken {
				t.Errorf("Same of %v and %v: %v; Canon: %q and %q", a, b, same, canons[i], canons[j])
			}
			if same && !slices.Equal(a, b) {
				otherwise++
			}
		}
	}
	if otherwise < 50 {
		t.Errorf("the test is wrong: %d", otherwise)
	}
}

// P8.5: what is shown of a list is what is shown of its parts, with commas between them, in [ and ].
func TestListsArePartsTogether(t *testing.T) {
	next := scatter()
	all := someValues(1000)
	for many := range 400 {
		var parts [][]api.Node
		var shown, canons []string
		for range many % 9 {
			part := all[next(len(all))].nodes("")
			s, e := Show(part)
			c, ce := Canon(part)
			if e != api.OK || ce != api.OK {
				t.Errorf("Show and Canon of %v: %d, %d", part, e, ce)
			}
			parts, shown, canons = append(parts, part), append(shown, s), append(canons, c)
		}
		list, e := tape.List(parts)
		if e != api.OK {
			t.Fatalf("the test is wrong: %d", e)
		}
		wantShow(t, list, "["+strings.Join(shown, ",")+"]")
		wantCanon(t, list, "["+strings.Join(canons, ",")+"]")
	}
}
