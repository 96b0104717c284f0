package jread

import (
	"math"
	"slices"
	"strings"
	"testing"
	"unsafe"

	"millstream/api"
)

const (
	allBlanks = " \t\n\r"
	allDigits = "0123456789"
	aValue    = `nft"[{-` + allDigits
)

// nulls are so many, with commas between.
func nulls(many int) string {
	return strings.Repeat("null,", max(many-1, 0)) + strings.Repeat("null", min(many, 1))
}

// P7.1: the chapter's examples.
func TestExamples(t *testing.T) {
	wantTape(t, `{"a": [1, -20, "x\n"], "b":null}`, []api.Node{
		{Kind: api.KObj, Size: 6}, {Kind: api.KList, Key: "a", Size: 4}, {Kind: api.KNum, N: 1, Size: 1}, {Kind: api.KNum, N: -20, Size: 1}, {Kind: api.KStr, S: "x\n", Size: 1}, {Kind: api.KNull, Key: "b", Size: 1},
	})
	wantTape(t, "-9223372036854775808", []api.Node{{Kind: api.KNum, N: math.MinInt64, Size: 1}})
	for _, c := range []struct {
		s  string
		at int
		e  api.Errno
	}{
		{"01", 1, api.ErrJson}, {"1.5", 0, api.ErrWhole}, {"1.", 2, api.ErrJson}, {"-", 1, api.ErrJson}, {"1e+3", 0, api.ErrWhole}, {"9223372036854775808", 0, api.ErrWhole},
		{"[1,]", 3, api.ErrJson}, {`{"a":1,"a":2}`, 7, api.ErrTwice}, {`["\x"]`, 1, api.ErrEscape}, {"tru", 3, api.ErrJson}, {"", 0, api.ErrJson}, {"[1] 2", 4, api.ErrJson}, {`{"a" 1}`, 5, api.ErrJson},
		{"[[1.0x", 2, api.ErrWhole}, {"[1 x", 3, api.ErrJson}, {`"a`, 0, api.ErrTrunc},
	} {
		wantWrong(t, c.s, c.at, c.e)
	}
}

// P7.1: each kind of value by itself, and those without parts within others.
func TestKinds(t *testing.T) {
	for s, want := range map[string]api.Node{
		"null": {Kind: api.KNull}, "false": {Kind: api.KFalse}, "true": {Kind: api.KTrue},
		"0": {Kind: api.KNum}, "-0": {Kind: api.KNum}, "7": {Kind: api.KNum, N: 7}, "-10": {Kind: api.KNum, N: -10}, "9223372036854775807": {Kind: api.KNum, N: math.MaxInt64},
		`""`: {Kind: api.KStr}, `"\u00e4/\/"`: {Kind: api.KStr, S: "\u00e4//"}, `"[1]"`: {Kind: api.KStr, S: "[1]"},
		"[]": {Kind: api.KList}, "{}": {Kind: api.KObj},
	} {
		want.Size = 1
		wantTape(t, s, []api.Node{want})
		wantTape(t, " \t"+s+"\r\n", []api.Node{want})
		wantTape(t, "["+s+"]", []api.Node{{Kind: api.KList, Size: 2}, want})
		wantTape(t, "["+s+","+s+"]", []api.Node{{Kind: api.KList, Size: 3}, want, want})
		keyed, other := want, want
		keyed.Key, other.Key = "k", "\n"
		wantTape(t, `{"k":`+s+`,"\n":`+s+"}", []api.Node{{Kind: api.KObj, Size: 3}, keyed, other})
		wantTape(t, `{"":`+s+"}", []api.Node{{Kind: api.KObj, Size: 2}, want})
	}
	wantTape(t, `[[],[{"a":{}}],1]`, []api.Node{
		{Kind: api.KList, Size: 6}, {Kind: api.KList, Size: 1}, {Kind: api.KList, Size: 3}, {Kind: api.KObj, Size: 2}, {Kind: api.KObj, Key: "a", Size: 1}, {Kind: api.KNum, N: 1, Size: 1},
	})
	wantTape(t, `{"b":[1],"a":[2]}`, []api.Node{
		{Kind: api.KObj, Size: 5}, {Kind: api.KList, Key: "b", Size: 2}, {Kind: api.KNum, N: 1, Size: 1}, {Kind: api.KList, Key: "a", Size: 2}, {Kind: api.KNum, N: 2, Size: 1},
	})
}

// P7.1: behind each beginning that the words tell apart, each byte either goes on or is wrong, right where it stands; and where no byte follows, the text's end is.
func TestEachByteBehindEachBeginning(t *testing.T) {
	for _, c := range []struct {
		begin, may string
		ended      bool
	}{
		{begin: "", may: aValue}, {begin: " \n\t\r", may: aValue},
		{begin: "[", may: aValue + "]"}, {begin: "[ ", may: aValue + "]"}, {begin: "[1,", may: aValue}, {begin: "[1 , ", may: aValue}, {begin: "[[],", may: aValue},
		{begin: "[1", may: ",].eE" + allDigits}, {begin: "[1 ", may: ",]"}, {begin: "[null", may: ",]"}, {begin: `["a"`, may: ",]"}, {begin: "[[]", may: ",]"}, {begin: "[{}", may: ",]"}, {begin: `[{"a":1}`, may: ",]"}, {begin: "[1,2 ", may: ",]"},
		{begin: "{", may: `"}`}, {begin: "{ ", may: `"}`}, {begin: `{"a":1,`, may: `"`}, {begin: `{"a":{} , `, may: `"`}, {begin: `[{"a":[],`, may: `"`},
		{begin: `{"a"`, may: ":"}, {begin: `{"a" `, may: ":"}, {begin: `{"a":1,"b"`, may: ":"}, {begin: `{"a":`, may: aValue}, {begin: `{"a" : `, may: aValue}, {begin: `{"a":1,"b":`, may: aValue},
		{begin: `{"a":1`, may: ",}.eE" + allDigits}, {begin: `{"a":1 `, may: ",}"}, {begin: `{"a":true`, may: ",}"}, {begin: `{"a":"b"`, may: ",}"}, {begin: `{"a":[]`, may: ",}"}, {begin: `{"a":[1]`, may: ",}"}, {begin: `{"a":{}`, may: ",}"},
		{begin: "null", ended: true}, {begin: "true ", ended: true}, {begin: "1 ", ended: true}, {begin: `"a"`, ended: true}, {begin: "[]", ended: true}, {begin: "{}", ended: true}, {begin: "[1]\n", ended: true}, {begin: `{"a":1}`, ended: true}, {begin: "[[{}]]", ended: true},
		{begin: "0", may: ".eE", ended: true}, {begin: "-0", may: ".eE", ended: true}, {begin: "9", may: ".eE" + allDigits, ended: true}, {begin: "-10", may: ".eE" + allDigits, ended: true},
	} {
		wantEachByte(t, c.begin, c.may+allBlanks, c.ended)
	}
	for _, c := range []struct{ begin, may string }{
		{"-", allDigits}, {"1.", allDigits}, {"-0.", allDigits}, {"1e", "+-" + allDigits}, {"1E", "+-" + allDigits}, {"1.5e", "+-" + allDigits}, {"1e+", allDigits}, {"10E-", allDigits}, {"-1.25E+", allDigits},
		{"n", "u"}, {"nu", "l"}, {"nul", "l"}, {"f", "a"}, {"fa", "l"}, {"fal", "s"}, {"fals", "e"}, {"t", "r"}, {"tr", "u"}, {"tru", "e"},
	} {
		wantEachByte(t, c.begin, c.may, false)
		wantEachByte(t, "["+c.begin, c.may, false)
		wantEachByte(t, `{"a": `+c.begin, c.may, false)
	}
}

// wantEachByte tells whether behind a beginning the bytes that may stand there, and no others, are gone over.
func wantEachByte(t *testing.T, begin, may string, ended bool) {
	t.Helper()
	if _, at, e := Parse(begin); ended != (e == api.OK) || !ended && (at != len(begin) || e != api.ErrJson) {
		t.Errorf("%q: %d at %d", begin, e, at)
	}
	for c := range 256 {
		s := begin + string([]byte{byte(c)})
		if strings.IndexByte(may, byte(c)) < 0 {
			wantWrong(t, s, len(begin), api.ErrJson)
			wantWrong(t, s+" null", len(begin), api.ErrJson)
			continue
		}
		if _, at, e := Parse(s); e == api.ErrJson && at <= len(begin) {
			t.Errorf("%q: ErrJson at %d", s, at)
		}
	}
}

// P7.1, 1: runes that are blanks elsewhere, remarks, and other spellings of values are none.
func TestWhatIsNoJson(t *testing.T) {
	for _, c := range []struct {
		s  string
		at int
	}{
		{" ", 1}, {"\ufeffnull", 0}, {"\v1", 0}, {"\f1", 0}, {"\u00a01", 0}, {"1\u2028", 1}, {"\x00", 0}, {"1\x00", 1}, {"null\x00", 4}, {"[\x00]", 1},
		{"nothing", 1}, {"nulx", 3}, {"Null", 0}, {"nULL", 1}, {"TRUE", 0}, {"truE", 3}, {"nulll", 4}, {"n ull", 1}, {"undefined", 0}, {"NaN", 0}, {"Infinity", 0}, {"-Infinity", 1},
		{"+1", 0}, {".5", 0}, {"- 1", 1}, {"--1", 1}, {"-a", 1}, {"00", 1}, {"-01", 2}, {"0x1", 1}, {"1_000", 1}, {"1 000", 2}, {"1,2", 1}, {"1.e1", 2}, {"1.+", 2}, {"1e1.5", 0}, {"1ee1", 2}, {"1e+-1", 3}, {"1e", 2}, {"1e-", 3}, {"[1e]", 3}, {"0b1", 1}, {"\u0661", 0},
		{"'a'", 0}, {"a", 0}, {`{a:1}`, 1}, {`{1:1}`, 1}, {`{null:1}`, 1}, {`{"a"=1}`, 4}, {`{"a":1;"b":2}`, 6}, {`{"a":1 "b":2}`, 7}, {`{"a"}`, 4}, {`{"a":}`, 5}, {`{"a",}`, 4}, {`{:1}`, 1}, {`{"a"::1}`, 5}, {`{,}`, 1}, {`{"a":1,,"b":2}`, 7}, {`{"a":1,}`, 7}, {`{"a":1]`, 6}, {`{]`, 1}, {`{[]:1}`, 1},
		{"[,]", 1}, {"[1 2]", 3}, {"[1,,2]", 3}, {"[1:2]", 2}, {"[1}", 2}, {"[}", 1}, {"[[1]", 4}, {"[1]]", 3}, {"[]]", 2}, {"{}}", 2}, {"[][]", 2}, {"]", 0}, {"}", 0}, {",", 0}, {":", 0}, {`"a":1`, 3}, {`["a":1]`, 4}, {`"a""b"`, 3}, {"1 // one", 2}, {"/* one */ 1", 0}, {"1 null", 2}, {"[1] [", 4},
	} {
		want := api.ErrJson
		if c.s == "1e1.5" {
			want = api.ErrWhole
		}
		wantWrong(t, c.s, c.at, want)
	}
}

// P7.1, 2: what Unquote says of a literal is told where it begins: of values and of keys.
func TestWrongLiterals(t *testing.T) {
	for _, c := range []struct {
		literal string
		e       api.Errno
	}{
		{`"`, api.ErrTrunc}, {`"abc`, api.ErrTrunc}, {`"abc\`, api.ErrTrunc}, {`"\u12`, api.ErrTrunc}, {`"\ud83d`, api.ErrTrunc}, {"\"\xe2\x82", api.ErrTrunc}, {`"abc\"`, api.ErrTrunc}, {`"a] `, api.ErrTrunc},
		{`"\x"`, api.ErrEscape}, {`"abc\u12x4"`, api.ErrEscape}, {`"\ude00"`, api.ErrEscape}, {"\"a\nb\"", api.ErrEscape}, {"\"\x00\"", api.ErrEscape}, {"\"\x1f", api.ErrEscape},
		{"\"\xff\"", api.ErrUtf}, {"\"abc\x80\"", api.ErrUtf}, {"\"\xc3\"", api.ErrUtf}, {"\"\xed\xa0\x80\"", api.ErrUtf}, {"\"\xff", api.ErrUtf},
	} {
		for _, ahead := range []string{"", "  ", "[", "[ 1, ", "{", "{ ", `{"a":`, `{"a":1,`, `[{"a":{"b" : [`} {
			wantWrong(t, ahead+c.literal, len(ahead), c.e)
			if c.e != api.ErrTrunc {
				wantWrong(t, ahead+c.literal+": x", len(ahead), c.e)
			}
		}
	}
	wantWrong(t, `[1x,"\x"]`, 2, api.ErrJson)
	wantWrong(t, `{"a" "\x"}`, 5, api.ErrJson)
	wantWrong(t, `"a" "\x"`, 4, api.ErrJson)
}

// P7.1, 3: a key that was there in that object, however it is spelt, is told where it begins, as soon as it is read; other objects' keys are none of its.
func TestKeysThatStandTwice(t *testing.T) {
	for _, c := range []struct {
		s  string
		at int
		e  api.Errno
	}{
		{`{"a":1,"a":2}`, 7, api.ErrTwice}, {`{"":1,"":2}`, 6, api.ErrTwice}, {`{"a":1, "b":2 , "a":3}`, 16, api.ErrTwice}, {`{"a":1,"b":2,"b":3}`, 13, api.ErrTwice},
		{`{"a":1,"\u0061":2}`, 7, api.ErrTwice}, {`{"\u00e4":1,"ä":2}`, 12, api.ErrTwice}, {`{"\/":1,"/":2}`, 8, api.ErrTwice}, {`{"\ud83d\ude00":1,"😀":2}`, 18, api.ErrTwice}, {`{"\n":1,"\u000A":2}`, 8, api.ErrTwice},
		{`{"a":{"a":1,"a":2}}`, 12, api.ErrTwice}, {`{"a":{"b":1},"a":2}`, 13, api.ErrTwice}, {`{"a":[{"a":1}],"a":2}`, 15, api.ErrTwice}, {`[{"a":1},{"b":1,"b":2}]`, 16, api.ErrTwice},
		{`{"a":1,"a"`, 7, api.ErrTwice}, {`{"a":1,"a"x`, 7, api.ErrTwice}, {`{"a":1,"a":1.5}`, 7, api.ErrTwice}, {`{"a":1,"a":"\x"}`, 7, api.ErrTwice},
		{`{"a":1,"a`, 7, api.ErrTrunc}, {`{"a":1,"a\x":1}`, 7, api.ErrEscape}, {`{"a":1.5,"a":1}`, 5, api.ErrWhole}, {`{"a":1 "a":1}`, 7, api.ErrJson}, {`{"a":1}"a"`, 7, api.ErrJson},
	} {
		wantWrong(t, c.s, c.at, c.e)
	}
	for _, s := range []string{`{"a":{"a":{"a":1}}}`, `[{"a":1},{"a":1}]`, `{"b":{"a":1},"a":{"b":1}}`, `{"a":1,"A":2,"a ":3,"":4,"aa":5}`, `{"a":"a","b":"a"}`, `{"a":"b","b":1}`, `["a","a"]`, "{\"\u00e4\":1,\"a\u0308\":2}"} {
		if e := wantWords(t, s); e != api.OK {
			t.Errorf("the test is wrong: %q: %d", s, e)
		}
	}
}

// someValueBegins are texts with which a value begins, be it one or none.
func someValueBegins() []string {
	return []string{"null", "true", "false", "0", "-1", `"a"`, "[]", "{}", "nx", "tru", "1.5", "1.", "-", "9223372036854775808", `"`, `"\x"`, "\"\xff\"", "[}", "{]"}
}

// P7.1, 4: 4000 values may begin; where one more does, that is told, be it what it may; what is no beginning of a value, and what ends, is not counted.
func TestManyNodes(t *testing.T) {
	list := append([]api.Node{{Kind: api.KList, Size: 4000}}, slices.Repeat([]api.Node{{Kind: api.KNull, Size: 1}}, 3999)...)
	wantTape(t, "["+nulls(3999)+"]", list)
	wantTape(t, " [ "+strings.ReplaceAll(nulls(3999), ",", " ,\n")+" ] ", list)
	for _, full := range []string{"[" + nulls(3999) + ",", "[" + nulls(3999) + " , ", `[{"a":[` + nulls(3997) + `],"b":`, `{"a":[` + strings.Repeat("[],", 3997) + `[]],"b" : `, "[" + strings.Repeat("{},", 3999)} {
		for _, value := range someValueBegins() {
			wantWrong(t, full+value, len(full), api.ErrLimit)
			wantWrong(t, full+value+"]", len(full), api.ErrLimit)
		}
		for _, wrong := range []string{"", "]", "}", ",", ":", "x", "+1", ".5", "\xff", "\x00"} {
			wantWrong(t, full+wrong, len(full), api.ErrJson)
		}
	}
	full := "[" + nulls(3999)
	for _, wrong := range []string{"", "x", "}", ":", "null", `"a"`, "[", "{"} {
		wantWrong(t, full+wrong, len(full), api.ErrJson)
		wantWrong(t, full+"]"+wrong+",", len(full)+1, api.ErrJson)
	}
	full = `{"a":[` + nulls(3998) + "],"
	wantWrong(t, full+`"a":1}`, len(full), api.ErrTwice)
	wantWrong(t, full+`"\x":1}`, len(full), api.ErrEscape)
	wantWrong(t, full+`"b" 1}`, len(full)+4, api.ErrJson)
	wantWrong(t, full+`"b":1}`, len(full)+4, api.ErrLimit)
	for _, s := range []string{`{"a":[` + nulls(3997) + `],"b":1}`, "[" + strings.Repeat("[],", 3998) + "[]]"} {
		if e := wantWords(t, s); e != api.OK {
			t.Errorf("the test is wrong: %s: %d", short(s), e)
		}
	}
	wantWrong(t, "["+strings.Repeat("null ,", 5000), 1+6*3999, api.ErrLimit)
}

// P7.1, 4: within 64 lists and objects no value may begin: that is told where it does, be it what it may; the lists and objects may end, and others begin behind them.
func TestDeepTexts(t *testing.T) {
	nest := func(deep int) []api.Node {
		var l []api.Node
		for i := range deep {
			l = append(l, api.Node{Kind: api.KList, Size: deep - i})
		}
		return l
	}
	wantTape(t, strings.Repeat("[", 64)+strings.Repeat("]", 64), nest(64))
	wantTape(t, strings.Repeat("[ ", 64)+strings.Repeat(" ]", 64), nest(64))
	for _, open := range []string{strings.Repeat("[", 64), strings.Repeat(`{"a":`, 63) + "[", strings.Repeat(`[{"a":`, 32), strings.Repeat(`{"a": [`, 32)} {
		if strings.HasSuffix(open, ":") {
			open = open[:len(open)-len(`"a":`)]
			wantWrong(t, open+`"a" 1`, len(open)+4, api.ErrJson)
			wantWrong(t, open+`"\x" 1`, len(open), api.ErrEscape)
			open += `"a":`
		} else {
			wantWrong(t, open+"] x", len(open)+2, api.ErrJson)
		}
		for _, value := range append(someValueBegins(), strings.Repeat("[", 9999)) {
			wantWrong(t, open+value, len(open), api.ErrDeep)
			wantWrong(t, open+" "+value+"]", len(open)+1, api.ErrDeep)
		}
		for _, wrong := range []string{"", "}", ",", ":", "x", "+1", "\xff", "\x00"} {
			wantWrong(t, open+wrong, len(open), api.ErrJson)
		}
	}
	wantWords(t, "["+strings.Repeat("[", 63)+strings.Repeat("]", 63)+","+strings.Repeat(`{"a":`, 62)+"{}"+strings.Repeat("}", 62)+", 1]")
	wantWords(t, strings.Repeat("[", 63)+"[],[],null,{}"+strings.Repeat("]", 63))
	wantWrong(t, strings.Repeat("[", 63)+"[],[],[1]", 63+7, api.ErrDeep)
	wantWrong(t, strings.Repeat("[", 1<<20), 64, api.ErrDeep)
}

// P7.1, 4: where too many have begun, and it is too deep, too, ErrLimit is told.
func TestManyAndDeep(t *testing.T) {
	begin := "[" + nulls(3935) + "," + strings.Repeat("[", 63)
	wantWrong(t, begin+"1", len(begin), api.ErrDeep)
	begin = "[" + nulls(3936) + "," + strings.Repeat("[", 63)
	wantWrong(t, begin+"1", len(begin), api.ErrLimit)
	wantWrong(t, begin+"x", len(begin), api.ErrJson)
	wantWords(t, begin+strings.Repeat("]", 64))
	begin = "[" + nulls(3937) + "," + strings.Repeat("[", 62)
	wantWrong(t, begin+"[", len(begin), api.ErrLimit)
}

// P7.1, 5: numbers that have a point or an exponent, or don't fit, are told where they begin, ahead of what stands behind them, and behind what is wrong within them.
func TestNumbersThatAreNotWhole(t *testing.T) {
	for _, number := range []string{"1.5", "1.0", "-0.0", "0.0", "1e0", "0e0", "1E5", "1e+3", "1e-3", "-1.25E+30", "10.00", "0e-0", "1e00", "1.0e0",
		"9223372036854775808", "-9223372036854775809", "18446744073709551616", "10000000000000000000", "-10000000000000000000", "99999999999999999999999", strings.Repeat("9", 1<<19), "-1" + strings.Repeat("0", 1<<19)} {
		for _, ahead := range []string{"", " ", "[", "[1, ", `{"a":`, `[{"a": [`} {
			for _, behind := range []string{"", " ", "x", "]", "}", "\x00", "\xff", ",", `"`} {
				wantWrong(t, ahead+number+behind, len(ahead), api.ErrWhole)
			}
			if strings.ContainsAny(number, "eE") {
				wantWrong(t, ahead+number+"e", len(ahead), api.ErrWhole)
			} else {
				wantWrong(t, ahead+number+"ex", len(ahead)+len(number)+1, api.ErrJson)
			}
		}
	}
	for number, n := range map[string]int64{"9223372036854775807": math.MaxInt64, "-9223372036854775808": math.MinInt64, "9223372036854775799": math.MaxInt64 - 8, "-9223372036854775800": math.MinInt64 + 8, "1000000000000000000": 1e18, "-0": 0, "0": 0, "-1": -1, "4294967296": 1 << 32, "2147483648": 1 << 31} {
		wantTape(t, number, []api.Node{{Kind: api.KNum, N: n, Size: 1}})
		wantTape(t, "[ "+number+" ]", []api.Node{{Kind: api.KList, Size: 2}, {Kind: api.KNum, N: n, Size: 1}})
	}
	wantWrong(t, "9223372036854775808.", 20, api.ErrJson)
	wantWrong(t, "1.5.", 0, api.ErrWhole)
	wantWrong(t, "1e5e", 0, api.ErrWhole)
	wantWrong(t, "[1.5,1.", 1, api.ErrWhole)
}

// P7.1: more than 2^20 bytes are too many, whatever they are; so many are not.
func TestLongTexts(t *testing.T) {
	const most = 1 << 20
	for _, c := range []struct{ begin, end string }{{"1", ""}, {"", "1"}, {"[", "]"}, {"[1,", "2]"}, {"{", `"a":1}`}} {
		s := c.begin + strings.Repeat(" ", most-len(c.begin)-len(c.end)) + c.end
		if e := wantWords(t, s); e != api.OK {
			t.Errorf("the test is wrong: %s: %d", short(s), e)
		}
		wantWrong(t, s+" ", 0, api.ErrLimit)
		wantWrong(t, " "+s, 0, api.ErrLimit)
	}
	text := strings.Repeat("a", most-2)
	wantTape(t, `"`+text+`"`, []api.Node{{Kind: api.KStr, S: text, Size: 1}})
	wantWrong(t, `"`+text+`a"`, 0, api.ErrLimit)
	wantWrong(t, strings.Repeat("x", most), 0, api.ErrJson)
	wantWrong(t, strings.Repeat(" ", most), most, api.ErrJson)
	wantWrong(t, strings.Repeat("x", most+1), 0, api.ErrLimit)
	wantWrong(t, strings.Repeat(" ", most-1)+"x", most-1, api.ErrJson)
	wantWrong(t, `"`+strings.Repeat("a", most-1), 0, api.ErrTrunc)
	wantWrong(t, strings.Repeat("1", most), 0, api.ErrWhole)
}

// P7.1: Parse is as the words say, of scattered texts, and of what becomes of them with bytes changed, left out, put in, or moved.
func TestParseIsThatOfTheWords(t *testing.T) {
	next := scatter()
	sp := scattered(next)
	telling := []string{" ", `"`, `\`, "[", "]", "{", "}", ",", ":", "0", "1", "-", ".", "e", "+", "n", "null", "true", "x", "\x00", "\x80", "\xff", `"a"`, `"a":`, `,"a":1`, "[]", "99999999999999999999", "1.5"}
	count := map[api.Errno]int{}
	for _, v := range someValues(1500) {
		s := sp.value(v)
		if e := wantWords(t, s); e != api.OK {
			t.Errorf("the test is wrong: %q: %d", s, e)
		}
		for range 40 {
			at, end, with := next(len(s)), next(len(s)), telling[next(len(telling))]
			from, to := min(at, end), max(at, end)
			spoilt := []string{s[:at] + s[at+1:], s[:at] + with + s[at+1:], s[:at] + with + s[at:], s[:from] + s[to:], s[:to] + s[from:]}[next(5)]
			count[wantWords(t, spoilt)]++
		}
	}
	for _, e := range []api.Errno{api.OK, api.ErrJson, api.ErrTrunc, api.ErrUtf, api.ErrEscape, api.ErrTwice, api.ErrWhole} {
		if count[e] < 50 {
			t.Errorf("the test is wrong: %v", count)
		}
	}
}

// P7.1: Parse is as the words say, of all texts of a few pieces.
func TestAllShortTexts(t *testing.T) {
	var grow func(s string, pieces []string, left int)
	grow = func(s string, pieces []string, left int) {
		wantWords(t, s)
		for i := 0; left > 0 && i < len(pieces); i++ {
			grow(s+pieces[i], pieces, left-1)
		}
	}
	grow("", []string{" ", "[", "]", "{", "}", ",", ":", `"a"`, "1", "null"}, 5)
	grow("", []string{"-", "0", "1", ".", "e", "+", " ", "x"}, 6)
	grow("{", []string{"{", "}", ",", `"a":`, `"\u0061"`, `"b":`, "0", "[", "]"}, 5)
}

// P7.1: near the bounds of nodes and of depth, too.
func TestParseIsThatOfTheWordsAtTheLimits(t *testing.T) {
	next := scatter()
	values := []string{"null", "1", "1.5", `"a"`, `"\x"`, "[]", "{}", "[1]", "[[1]]", "[[[1]]]", `{"a":1}`, `{"a":1,"a":2}`, "[", "tru", ""}
	between := []string{",", ",", ",", ",", " , ", "],[", "]", "x", ""}
	count := map[api.Errno]int{}
	for range 1500 {
		s := strings.Repeat([]string{"[", `{"a":[`}[next(2)], 60+next(4))
		if next(2) == 0 {
			s = "[" + nulls(3990+next(10)) + "," + strings.Repeat("[", next(4))
		}
		for range next(6) + 1 {
			s += values[next(len(values))] + between[next(len(between))]
		}
		count[wantWords(t, s)]++
	}
	if count[api.ErrLimit] < 100 || count[api.ErrDeep] < 100 {
		t.Errorf("the test is wrong: %v", count)
	}
}

// P7.2: what is answered is changed by nothing else, and shares nothing with the text, nor with what another call answers.
func TestNewMemory(t *testing.T) {
	s := `{"some key":["some text",1,null],"other":"\u00e4"}`
	first, _, _ := Parse(s)
	second, _, _ := Parse(s)
	want := slices.Clone(first)
	clear(first[:cap(first)])
	if !slices.Equal(second, want) {
		t.Errorf("nodes became %v", second)
	}
	wantTape(t, s, want)
	begin := uintptr(unsafe.Pointer(unsafe.StringData(s)))
	for _, node := range want {
		for _, part := range []string{node.Key, node.S} {
			at := uintptr(unsafe.Pointer(unsafe.StringData(part)))
			if part != "" && begin <= at && at < begin+uintptr(len(s)) {
				t.Errorf("%q lies in the text that was handed in", part)
			}
		}
	}
}
