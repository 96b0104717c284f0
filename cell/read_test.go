package cell

import (
	"strings"
	"testing"

	"millstream/api"
)

// P9.4: texts that are just beside those of a cell.
func TestReadOfWrongTexts(t *testing.T) {
	wrong := map[api.Type][]string{
		aBool:   {"", "True", "FALSE", "true ", " true", "tru", "truee", "0", "1", "x01", `"true"`, "null", "falsetrue", "fals", "t"},
		anInt32: {"", "-", "+1", "-0", "00", "01", "-01", "1 ", " 1", "1.0", "1e3", "0x1", "1_0", "--1", "2147483648", "-2147483649", "4294967296", "9223372036854775808", "18446744073709551617", "true", `"1"`, "null", "x", "\u0661", "1\n", "1\x00"},
		anInt64: {"", "-", "+1", "-0", "00", "007", "9223372036854775808", "-9223372036854775809", "18446744073709551615", "18446744073709551616", strings.Repeat("9", 400), "0" + strings.Repeat("0", 400), "null", "0.", ".0"},
		aString: {"", "a", `"`, `"a`, `a"`, `"a"b"`, `"a" `, ` "a"`, `""a`, `""""`, "'a'", `"\/"`, `"\u0041"`, `"\u000A"`, `"\u000a"`, `"\u001F"`, `"\u007f"`, `"\ud83d\ude00"`, `"\x"`, "\"\n\"", "\"\x00\"", "\"\xff\"", "\"\xc3\"", `"\"`, "null", `"` + strings.Repeat("a", 1025) + `"`, `"` + strings.Repeat(`\n`, 1025) + `"`, `"` + strings.Repeat("\u00e4", 513) + `"`},
		someOf:  {"", "X", "x0", "x000", "x0g", "xg0", "x 00", "x00 ", " x00", "xF0", "x0F", "xAB", "00", "xx00", "x0x", "xx", "x00x", "x-1", "x+1", "x0_", "x0:", "x0/", "x0`", "x0@", `"x00"`, "null", "x" + strings.Repeat("00", 1025), "x" + strings.Repeat("00", 1024) + "0", "x00\x00", "x0\u0660"},
	}
	for of, texts := range wrong {
		maybe := api.Type{Kind: of.Kind, Null: true}
		for _, s := range texts {
			wantRead(t, of, s, api.Cell{}, api.ErrForm)
			if s != "null" {
				wantRead(t, maybe, s, api.Cell{}, api.ErrForm)
			}
		}
		wantRead(t, maybe, "null", nothing, api.OK)
		for _, s := range []string{"NULL", "Null", "nul", "null ", " null", "nullnull", "nothing"} {
			wantRead(t, maybe, s, api.Cell{}, api.ErrForm)
			wantRead(t, of, s, api.Cell{}, api.ErrForm)
		}
	}
}

// P9.4: texts at the edges of each kind.
func TestReadOfTexts(t *testing.T) {
	long := strings.Repeat("a", 1024)
	for _, c := range []struct {
		of   api.Type
		s    string
		want api.Cell
	}{
		{aBool, "false", num(0)}, {aBool, "true", num(1)},
		{anInt32, "0", num(0)}, {anInt32, "-1", num(-1)}, {anInt32, "2147483647", num(1<<31 - 1)}, {anInt32, "-2147483648", num(-1 << 31)},
		{anInt64, "10", num(10)}, {anInt64, "2147483648", num(1 << 31)}, {anInt64, "9223372036854775807", num(1<<63 - 1)}, {anInt64, "-9223372036854775808", num(-1 << 63)},
		{aString, `""`, run("")}, {aString, `"null"`, run("null")}, {aString, `"\u0000/\n\"\\"`, run("\x00/\n\"\\")}, {aString, "\"\u00e4\U0001f600\x7f\"", run("\u00e4\U0001f600\x7f")},
		{aString, `"` + long + `"`, run(long)}, {aString, `"` + strings.Repeat(`\u0000`, 1024) + `"`, run(strings.Repeat("\x00", 1024))},
		{someOf, "x", run("")}, {someOf, "x00", run("\x00")}, {someOf, "x09afff", run("\x09\xaf\xff")}, {someOf, "x" + strings.Repeat("61", 1024), run(long)},
	} {
		wantRead(t, c.of, c.s, c.want, api.OK)
		wantRead(t, api.Type{Kind: c.of.Kind, Null: true}, c.s, c.want, api.OK)
	}
}

// P9.4: a type that may not be is told, whatever the text is.
func TestReadOfWrongTypes(t *testing.T) {
	for _, of := range typesThatMayNot() {
		for _, s := range []string{"", "null", "true", "0", `"a"`, "x00", "?"} {
			wantRead(t, of, s, api.Cell{}, api.ErrArg)
		}
	}
}

// beside are the texts that become of one with a byte left out, put in, or changed for another one.
func beside(s string, bytes string) []string {
	l := []string{s}
	for at := range len(s) + 1 {
		l = append(l, s[:at])
		for i := range len(bytes) {
			l = append(l, s[:at]+bytes[i:i+1]+s[at:])
			if at < len(s) {
				l = append(l, s[:at]+bytes[i:i+1]+s[at+1:])
			}
		}
		if at < len(s) {
			l = append(l, s[:at]+s[at+1:])
		}
	}
	return l
}

// P9.4: what stands beside the texts of cells is read as the words say.
func TestReadIsThatOfTheWords(t *testing.T) {
	read, refused := 0, 0
	for _, of := range typesThatMay() {
		for _, c := range cellsOf(of) {
			if len(c.S) > 20 {
				if !wantReadOfTheWords(t, of, wordText(of, c)) {
					t.Errorf("the test is wrong: %v, %s", of, told(c))
				}
				continue
			}
			for _, s := range beside(wordText(of, c), "0-xaF\"\\ \x00\xff") {
				if wantReadOfTheWords(t, of, s) {
					read++
				} else {
					refused++
				}
			}
		}
	}
	if read < 1000 || refused < 1000 {
		t.Errorf("the test is wrong: %d, %d", read, refused)
	}
}

// P9.4, P9.6: of all texts of a few pieces just those are read that the words say, and what is read is written so.
func TestReadOfEachShortText(t *testing.T) {
	read := map[api.Type]int{}
	for _, pieces := range [][]string{
		{"0", "1", "9", "-", "+", ".", "e", " ", "x"},
		{"x", "0", "9", "a", "f", "g", "A", "F", "`", "/", ":"},
		{`"`, `\"`, `\\`, `\`, `\n`, "\n", `\u000a`, `\u0000`, `\u0041`, "a", "\u00e4", "\xc3", "\xa4"},
		{"t", "true", "rue", "false", "null", "n", "-1", "x"},
	} {
		for _, of := range typesThatMay() {
			eachText(pieces, 4, func(s string) {
				if wantReadOfTheWords(t, of, s) {
					read[of]++
					c, _ := Read(of, s)
					wantText(t, of, c, s, api.OK)
				}
			})
		}
	}
	if read[aBool] < 2 || read[maybeBool] < 3 || read[anInt32] < 100 || read[aString] < 50 || read[someOf] < 30 {
		t.Errorf("the test is wrong: %v", read)
	}
}
