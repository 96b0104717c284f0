package evolve

import (
	"fmt"
	"math"
	"slices"
	"strings"
	"testing"

	"millstream/api"
	"millstream/cell"
	"millstream/schema"
)

var nothing = api.Cell{Null: true}

// num is a cell of a bool, or a whole number; run one of a string, or bytes.
func num(n int64) api.Cell  { return api.Cell{N: n} }
func run(s string) api.Cell { return api.Cell{S: s} }

// of is a row.
func of(cells ...api.Cell) []api.Cell { return cells }

// chain is schemas.
func chain(l ...api.Schema) []api.Schema { return l }

// read is the schema of a text, with / for a line feed.
func read(text string) api.Schema {
	s, _, e := schema.Parse(strings.ReplaceAll(text, "/", "\n"))
	if e != api.OK {
		panic("the test is wrong: no schema: " + text)
	}
	return s
}

// noSchema is what is none; brokenSchema is read of no text.
var noSchema = api.Schema{}

func brokenSchema() api.Schema {
	s := read("1 id int32* 0/2 s string \"d\"/")
	s.Columns[1].Name = "id"
	return s
}

// P12.1 to P12.3: the chapter's examples.
func TestExamples(t *testing.T) {
	a, r := read(`1 id int32* 0/2 s string "d"/`), of(num(5), run("x"))
	wantStep(t, a, a, api.OK)
	wantMove(t, a, a, r, of(num(5), run("x")), api.OK)
	wider := read(`1 id int64* 0/4 n int64? null/`)
	wantStep(t, a, wider, api.OK)
	wantMove(t, a, wider, r, of(num(5), nothing), api.OK)
	wantStep(t, a, noSchema, api.ErrArg)
	wantMove(t, a, noSchema, r, nil, api.ErrArg)
	for _, text := range []string{`2 s string "d"/`, `1 id int32* 0/2 t string "d"/`, `1 id int32* 0/2 s string? "d"/`, `1 id int32* 0/2 s string "e"/`} {
		wantStep(t, a, read(text), api.ErrIncompatible)
		wantMove(t, a, read(text), r, nil, api.ErrIncompatible)
	}
	wantStep(t, read(`2 s string* ""/`), read(`1 a bool false/2 s string* ""/`), api.ErrIncompatible)

	b := read(`1 id int32* 0/`)
	wantStep(t, b, a, api.OK)
	wantChain(t, chain(a, b), api.OK)
	wantChain(t, chain(a, b, a), api.ErrIncompatible)
}

// P12.1: one that may not be is told ahead of what may not follow, wherever it stands.
func TestStepOfWhatMayNotBe(t *testing.T) {
	good, other := read(`1 id int32* 0/2 s string "d"/`), read(`7 z bool true/`)
	wantStep(t, good, other, api.ErrIncompatible)
	many := api.Schema{}
	for i := range 33 {
		many.Columns = append(many.Columns, api.Column{Id: 1 + i, Name: fmt.Sprint("c", i), Type: api.Type{Kind: api.TBool}})
	}
	nullKey := read(`1 id int32? 0/`)
	nullKey.Keys = []int{0}
	noPlace := read(`1 id int32 0/`)
	noPlace.Keys = []int{1}
	for _, bad := range []api.Schema{noSchema, brokenSchema(), many, nullKey, noPlace} {
		wantStep(t, bad, bad, api.ErrArg)
		for _, s := range []api.Schema{good, other} {
			wantStep(t, bad, s, api.ErrArg)
			wantStep(t, s, bad, api.ErrArg)
		}
	}
}

// P12.1: a column that stays has the same Name, Default and Null; each of these alone is told, wherever the column stands.
func TestWhatStaysIsTheSame(t *testing.T) {
	a := read(`1 id int32* 0/2 s string "d"/3 n int64? 7/5 b bytes? null/`)
	for _, text := range []string{
		`1 it int32* 0/2 s string "d"/3 n int64? 7/5 b bytes? null/`,
		`1 id int32* 1/2 s string "d"/3 n int64? 7/5 b bytes? null/`,
		`1 id int64* 1/2 s string "d"/3 n int64? 7/5 b bytes? null/`,
		`1 id int64* 0/2 t string "d"/3 n int64? 7/5 b bytes? null/`,
		`1 id int32* 0/2 s string "D"/3 n int64? 7/5 b bytes? null/`,
		`1 id int32* 0/2 s string ""/3 n int64? 7/5 b bytes? null/`,
		`1 id int32* 0/2 s string? "d"/3 n int64? 7/5 b bytes? null/`,
		`1 id int32* 0/2 s string "d"/3 n int64 7/5 b bytes? null/`,
		`1 id int32* 0/2 s string "d"/3 n int64? null/5 b bytes? null/`,
		`1 id int32* 0/2 s string "d"/3 n int64? -7/5 b bytes? null/`,
		`1 id int32* 0/2 s string "d"/3 n int64? 7/5 b bytes? x/`,
		`1 id int32* 0/2 s string "d"/3 n int64? 7/5 b bytes x/`,
		`1 id int32* 0/2 s string "d"/3 n int64? 7/5 b bytes? x00/`,
		`1 id int32* 0/2 s string "d"/3 n int64? 7/5 c bytes? null/`,
		`1 id int32* 0/2 n string "d"/3 s int64? 7/5 b bytes? null/`,
		`1 id int32* 0/5 s string "d"/`,
	} {
		wantStep(t, a, read(text), api.ErrIncompatible)
	}
	for _, text := range []string{
		`1 id int32* 0/2 s string "d"/3 n int64? 7/5 b bytes? null/`,
		`1 id int64* 0/2 s string "d"/3 n int64? 7/5 b bytes? null/`,
		`1 id int32* 0/3 n int64? 7/5 b bytes? null/`,
		`1 id int32* 0/5 b bytes? null/`,
		`1 id int32* 0/`,
		`1 id int32* 0/6 s string ""/7 n bool false/`,
	} {
		wantStep(t, a, read(text), api.OK)
	}
}

// P12.1: of all pairs of types the same ones stay, and int64 comes in the place of int32, if nothing else of them is another.
func TestKindsThatStay(t *testing.T) {
	for _, was := range typesThatMay() {
		for _, is := range typesThatMay() {
			a, b := read(`1 id bool* false/2 c bool false/`), read(`1 id bool* false/2 c bool false/`)
			a.Columns[1].Type, b.Columns[1].Type = was, is
			for _, d := range anyCells() {
				if cell.Check(was, d) != api.OK || cell.Check(is, d) != api.OK {
					continue
				}
				a.Columns[1].Default, b.Columns[1].Default = d, d
				want := api.ErrIncompatible
				if was == is || was.Null == is.Null && was.Kind == api.TInt32 && is.Kind == api.TInt64 {
					want = api.OK
				}
				wantStep(t, a, b, want)
			}
		}
	}
}

// P12.1: ids that come are above all ids of the one ahead, those too that go.
func TestIdsThatCome(t *testing.T) {
	a := read(`3 id int32* 0/5 s string "d"/9 n int64 7/`)
	for _, c := range []struct {
		text string
		e    api.Errno
	}{
		{`1 x bool false/3 id int32* 0/5 s string "d"/9 n int64 7/`, api.ErrIncompatible},
		{`2 x bool false/3 id int32* 0/`, api.ErrIncompatible},
		{`3 id int32* 0/4 x bool false/5 s string "d"/9 n int64 7/`, api.ErrIncompatible},
		{`3 id int32* 0/5 s string "d"/8 x bool false/9 n int64 7/`, api.ErrIncompatible},
		{`3 id int32* 0/4 x bool false/`, api.ErrIncompatible},
		{`3 id int32* 0/6 x bool false/`, api.ErrIncompatible},
		{`3 id int32* 0/8 x bool false/`, api.ErrIncompatible},
		{`3 id int32* 0/8 x bool false/10 y bool false/`, api.ErrIncompatible},
		{`3 id int32* 0/10 x bool false/`, api.OK},
		{`3 id int32* 0/10 n int64 8/`, api.OK},
		{`3 id int32* 0/5 s string "d"/9 n int64 7/10 x bool false/`, api.OK},
		{`3 id int32* 0/10 x bool false/11 y bool false/1048576 z bytes? null/`, api.OK},
		{`3 id int32* 0/1048576 x bool false/`, api.OK},
	} {
		wantStep(t, a, read(c.text), c.e)
	}
	last := read(`1 a bool false/1048576 b bool false/`)
	wantStep(t, last, read(`1 a bool false/`), api.OK)
	wantStep(t, last, read(`1048576 b bool false/`), api.OK)
	wantStep(t, last, read(`1048575 c bool false/`), api.ErrIncompatible)
}

// P12.1: the key's columns are the same by their ids, wherever these stand.
func TestKeysThatStay(t *testing.T) {
	a := read(`1 a int32 0/2 b int32* 0/3 c int32* 0/4 d int32 0/`)
	for _, c := range []struct {
		text string
		e    api.Errno
	}{
		{`1 a int32 0/2 b int32* 0/3 c int32* 0/4 d int32 0/`, api.OK},
		{`2 b int32* 0/3 c int32* 0/`, api.OK},
		{`2 b int64* 0/3 c int64* 0/4 d int64 0/`, api.OK},
		{`2 b int32* 0/3 c int32* 0/5 e int32 0/`, api.OK},
		{`1 a int32* 0/2 b int32* 0/3 c int32* 0/4 d int32 0/`, api.ErrIncompatible},
		{`1 a int32 0/2 b int32* 0/3 c int32 0/4 d int32 0/`, api.ErrIncompatible},
		{`1 a int32 0/2 b int32 0/3 c int32* 0/4 d int32 0/`, api.ErrIncompatible},
		{`1 a int32 0/2 b int32 0/3 c int32* 0/4 d int32* 0/`, api.ErrIncompatible},
		{`1 a int32* 0/2 b int32* 0/3 c int32 0/4 d int32 0/`, api.ErrIncompatible},
		{`1 a int32 0/2 b int32 0/3 c int32 0/4 d int32 0/`, api.ErrIncompatible},
		{`1 a int32 0/2 b int32* 0/4 d int32 0/`, api.ErrIncompatible},
		{`1 a int32 0/3 c int32* 0/4 d int32* 0/`, api.ErrIncompatible},
		{`1 a int32 0/4 d int32 0/`, api.ErrIncompatible},
		{`2 b int32* 0/3 c int32* 0/5 e int32* 0/`, api.ErrIncompatible},
		{`2 b int32* 0/5 c int32* 0/`, api.ErrIncompatible},
		{`5 b int32* 0/6 c int32* 0/`, api.ErrIncompatible},
	} {
		wantStep(t, a, read(c.text), c.e)
	}
	// Without a key all columns may go.
	wantStep(t, read(`1 a int32 0/2 b bool true/`), read(`3 a bool false/`), api.OK)
	wantStep(t, read(`1 a int32 0/`), read(`1 a int32 0/2 b bool* true/`), api.ErrIncompatible)
}

// P12.2: more than 64 are told ahead of all else; one that may not be ahead of what is no chain.
func TestChainOfWhatMayNotBe(t *testing.T) {
	a, b := read(`1 id int32* 0/`), read(`1 id int32* 1/`)
	wantChain(t, nil, api.OK)
	wantChain(t, chain(), api.OK)
	wantChain(t, chain(a), api.OK)
	wantChain(t, chain(noSchema), api.ErrArg)
	wantChain(t, chain(a, b), api.ErrIncompatible)
	wantChain(t, chain(a, b, brokenSchema()), api.ErrArg)
	wantChain(t, chain(noSchema, a, b), api.ErrArg)
	wantChain(t, chain(a, noSchema, b), api.ErrArg)
	wantChain(t, slices.Repeat(chain(a), 64), api.OK)
	wantChain(t, slices.Repeat(chain(a), 65), api.ErrLimit)
	wantChain(t, slices.Repeat(chain(noSchema), 64), api.ErrArg)
	wantChain(t, slices.Repeat(chain(noSchema), 65), api.ErrLimit)
	wantChain(t, append(slices.Repeat(chain(a), 64), noSchema), api.ErrLimit)
	wantChain(t, append(slices.Repeat(chain(a), 63), noSchema), api.ErrArg)
	wantChain(t, append(slices.Repeat(chain(a), 63), b), api.ErrIncompatible)
	wantChain(t, append(slices.Repeat(chain(a), 64), b), api.ErrLimit)
	wantChain(t, append(chain(b), slices.Repeat(chain(a), 63)...), api.ErrIncompatible)
	wantChain(t, slices.Repeat(chain(a, b), 1000), api.ErrLimit)
}

// P12.2: ids that come are above all ids of all ahead, not of the last one alone.
func TestIdsThatComeInAChain(t *testing.T) {
	id, plain := `1 id int32* 0/`, read(`1 id int32* 0/`)
	with := func(text string) api.Schema { return read(id + text) }
	wantChain(t, chain(with(`5 a bool false/`), plain, with(`6 b bool false/`)), api.OK)
	wantChain(t, chain(with(`5 a bool false/`), plain, with(`5 a bool false/`)), api.ErrIncompatible)
	wantChain(t, chain(with(`5 a bool false/`), plain, with(`5 b bytes x/`)), api.ErrIncompatible)
	wantChain(t, chain(with(`5 a bool false/`), plain, with(`4 b bool false/`)), api.ErrIncompatible)
	wantChain(t, chain(with(`5 a bool false/`), plain, plain, plain, with(`4 b bool false/`)), api.ErrIncompatible)
	wantChain(t, chain(plain, with(`5 a bool false/`), plain, with(`4 b bool false/`)), api.ErrIncompatible)
	wantChain(t, chain(plain, with(`5 a bool false/`), plain, with(`6 b bool false/`), plain, with(`7 a bool false/`)), api.OK)
	wantChain(t, chain(plain, with(`5 a bool false/`), plain, with(`6 b bool false/`), plain, with(`6 b bool false/`)), api.ErrIncompatible)
	wantChain(t, chain(with(`2 a bool false/9 b bool false/`), with(`2 a bool false/`), with(`2 a bool false/3 c bool false/`)), api.ErrIncompatible)
	wantChain(t, chain(with(`2 a bool false/9 b bool false/`), with(`2 a bool false/`), with(`2 a bool false/10 c bool false/`), with(`2 a bool false/`)), api.OK)
	// The highest one is of the first of all, though later ones came.
	wantChain(t, chain(with(`1048576 a bool false/`), plain, with(`1048575 b bool false/`)), api.ErrIncompatible)
	wantChain(t, chain(with(`1048575 a bool false/`), plain, with(`1048576 b bool false/`)), api.OK)
}

// P12.2: each step is looked at, the first one as the last one; int64 does not become int32 again.
func TestEachStepOfAChain(t *testing.T) {
	var l []api.Schema
	for version := range 64 {
		text := "1 id int32* 0/"
		if version > 20 {
			text = "1 id int64* 0/"
		}
		l = append(l, read(fmt.Sprintf(`%s%d v string "d"/`, text, 2+version)))
	}
	wantChain(t, l, api.OK)
	for version := range l {
		bad := slices.Clone(l)
		bad[version] = schema.Copy(bad[version])
		bad[version].Columns[0].Default = num(1)
		wantChain(t, bad, api.ErrIncompatible)
		wantChain(t, bad[version:version+1], api.OK)
	}
	wantChain(t, chain(l[20], l[21]), api.OK)
	wantChain(t, chain(l[21], l[20]), api.ErrIncompatible)
	narrow, wide := read(`1 id int32* 0/`), read(`1 id int64* 0/`)
	wantChain(t, chain(narrow, wide, wide), api.OK)
	wantChain(t, chain(narrow, wide, narrow), api.ErrIncompatible)
}

// P12.3: what may not follow is told ahead of a row that is none, and that by the columns of the one ahead.
func TestMoveOfWhatMayNotBe(t *testing.T) {
	a, b, c := read(`1 id int32* 0/2 s string "d"/`), read(`1 id int64* 0/3 n int64? null/`), read(`1 id string* ""/`)
	for _, r := range [][]api.Cell{nil, of(num(5)), of(num(5), run("x")), of(nothing, nothing)} {
		wantMove(t, a, c, r, nil, api.ErrIncompatible)
		wantMove(t, b, a, r, nil, api.ErrIncompatible)
		wantMove(t, a, noSchema, r, nil, api.ErrArg)
		wantMove(t, noSchema, a, r, nil, api.ErrArg)
		wantMove(t, noSchema, noSchema, r, nil, api.ErrArg)
	}
	wantMove(t, a, b, nil, nil, api.ErrRow)
	wantMove(t, a, b, of(num(5)), nil, api.ErrRow)
	wantMove(t, a, b, of(num(5), run("x"), nothing), nil, api.ErrRow)
	wantMove(t, a, b, of(nothing), nil, api.ErrRow)
	wantMove(t, a, b, of(num(5), nothing), nil, api.ErrCell)
	wantMove(t, a, b, of(run("x"), run("x")), nil, api.ErrCell)
	// What would fit behind the move, but does not ahead of it; what goes is looked at, too.
	wantMove(t, a, b, of(num(1<<31), run("x")), nil, api.ErrCell)
	wantMove(t, a, b, of(num(5), run("\xff")), nil, api.ErrCell)
}

// P12.3: cells go with their columns' ids; what comes has its Default.
func TestMove(t *testing.T) {
	a := read(`2 a bool true/3 id int32* 0/5 s string? "d"/9 n int64 7/`)
	r := of(num(0), num(-5), nothing, num(math.MinInt64))
	for _, c := range []struct {
		text string
		want []api.Cell
	}{
		{`2 a bool true/3 id int32* 0/5 s string? "d"/9 n int64 7/`, r},
		{`3 id int32* 0/`, of(num(-5))},
		{`3 id int64* 0/9 n int64 7/`, of(num(-5), num(math.MinInt64))},
		{`2 a bool true/3 id int64* 0/5 s string? "d"/`, of(num(0), num(-5), nothing)},
		{`3 id int64* 0/5 s string? "d"/10 n bytes? x00ff/`, of(num(-5), nothing, run("\x00\xff"))},
		{`3 id int64* 0/5 s string? "d"/10 n bytes? null/12 x bool true/`, of(num(-5), nothing, nothing, num(1))},
		{`3 id int64* 0/10 s string? "e"/11 n int32 -9/`, of(num(-5), run("e"), num(-9))},
	} {
		wantMove(t, a, read(c.text), r, c.want, api.OK)
	}
	// There need not be a column that stays.
	wantMove(t, read(`1 a bool false/2 b bool true/`), read(`3 a int64 9/4 c string "x"/`), of(num(1), num(1)), of(num(9), run("x")), api.OK)
}

// P12.4: what is no chain is told ahead of a version, and that ahead of a row.
func TestCarryOfWhatMayNotBe(t *testing.T) {
	a, b := read(`1 id int32* 0/2 s string "d"/`), read(`1 id int64* 0/`)
	l, r := chain(a, b, b), of(num(5), run("x"))
	for _, c := range []struct {
		from, to int
		r        []api.Cell
		e        api.Errno
	}{
		{0, 0, r, api.ErrVersion}, {0, 1, r, api.ErrVersion}, {0, 3, r, api.ErrVersion}, {-1, 1, r, api.ErrVersion}, {2, 1, r, api.ErrVersion}, {3, 2, of(num(5)), api.ErrVersion},
		{1, 4, r, api.ErrVersion}, {3, 4, of(num(5)), api.ErrVersion}, {4, 4, r, api.ErrVersion}, {4, 3, r, api.ErrVersion}, {1, 0, r, api.ErrVersion}, {1, -1, r, api.ErrVersion},
		{math.MinInt, math.MaxInt, r, api.ErrVersion}, {math.MinInt, math.MinInt, r, api.ErrVersion}, {math.MaxInt, math.MaxInt, r, api.ErrVersion}, {1, math.MaxInt, r, api.ErrVersion}, {math.MaxInt, 1, r, api.ErrVersion}, {1, math.MinInt, r, api.ErrVersion}, {math.MinInt, 1, r, api.ErrVersion},
		{0, 1, nil, api.ErrVersion}, {1, 4, of(nothing), api.ErrVersion},
		{1, 1, nil, api.ErrRow}, {1, 3, of(num(5)), api.ErrRow}, {1, 2, of(num(5), run("x"), nothing), api.ErrRow}, {2, 3, r, api.ErrRow}, {3, 3, r, api.ErrRow},
		{1, 1, of(num(5), nothing), api.ErrCell}, {1, 3, of(num(1<<31), run("x")), api.ErrCell}, {2, 2, of(nothing), api.ErrCell}, {2, 3, of(run("x")), api.ErrCell},
	} {
		wantCarry(t, l, c.from, c.to, c.r, nil, c.e)
		wantCarry(t, append(chain(b), l...), c.from, c.to, c.r, nil, api.ErrIncompatible)
		wantCarry(t, append(l[:3:3], a), c.from, c.to, c.r, nil, api.ErrIncompatible)
		wantCarry(t, append(l[:3:3], a, noSchema), c.from, c.to, c.r, nil, api.ErrArg)
		wantCarry(t, slices.Repeat(l, 22), c.from, c.to, c.r, nil, api.ErrLimit)
		wantCarry(t, nil, c.from, c.to, c.r, nil, api.ErrVersion)
	}
	// A chain that is none behind the versions that are passed is none all the same.
	wantCarry(t, append(l[:3:3], a), 1, 2, r, nil, api.ErrIncompatible)
	wantCarry(t, append(l[:3:3], noSchema), 1, 1, r, nil, api.ErrArg)
}

// P12.4: from version to version, from the one that is named up to the one that is named.
func TestCarry(t *testing.T) {
	l := chain(
		read(`1 id int32* 0/2 s string "d"/`),
		read(`1 id int32* 0/2 s string "d"/3 b bool true/`),
		read(`1 id int64* 0/3 b bool true/`),
		read(`1 id int64* 0/3 b bool true/5 n int32? 9/`),
		read(`1 id int64* 0/5 n int64? 9/7 x bytes xff/`),
	)
	rows := [][]api.Cell{
		of(num(5), run("x")),
		of(num(5), run("x"), num(1)),
		of(num(5), num(1)),
		of(num(5), num(1), num(9)),
		of(num(5), num(9), run("\xff")),
	}
	for from := range l {
		for to := from; to < len(l); to++ {
			wantCarry(t, l, from+1, to+1, rows[from], rows[to], api.OK)
		}
	}
	wantCarry(t, l, 2, 4, of(num(5), run("x"), num(0)), of(num(5), num(0), num(9)), api.OK)
	wantCarry(t, l, 3, 3, of(num(1<<40), num(0)), of(num(1<<40), num(0)), api.OK)
	wantCarry(t, l, 4, 5, of(num(1<<40), num(0), nothing), of(num(1<<40), nothing, run("\xff")), api.OK)
}

// P12.2, P12.4: of the longest chain there is, each version is reached.
func TestTheLongestChain(t *testing.T) {
	var l []api.Schema
	for version := range 64 {
		l = append(l, read(fmt.Sprintf("1 id int64* 0/%d v int64 %d/", 2+version, version)))
	}
	wantChain(t, l, api.OK)
	for version := range l {
		wantCarry(t, l, version+1, 64, of(num(8), num(int64(version))), of(num(8), num(63)), api.OK)
		wantCarry(t, l, 1, version+1, of(num(8), num(0)), of(num(8), num(int64(version))), api.OK)
	}
	wantCarry(t, l, 64, 65, of(num(8), num(63)), nil, api.ErrVersion)
	wantCarry(t, append(l, l[63]), 1, 2, of(num(8), num(0)), nil, api.ErrLimit)
}

// P12.1, P12.3: Step and Move are those of the words, of all pairs of small schemas.
func TestStepIsThatOfTheWordsOfAllSmallPairs(t *testing.T) {
	all := smallSchemas(3, "%d c%d int32 0/", "%d c%d int64 0/", "%d c%d int32* 0/", "%d c%d int32? 0/", "%d c%d bool* true/")
	count := map[api.Errno]int{}
	for _, a := range all {
		r := make([]api.Cell, len(a.Columns))
		for _, b := range all {
			e := wordStep(a, b)
			wantStep(t, a, b, e)
			want, e := wordMove(a, b, r)
			wantMove(t, a, b, r, want, e)
			count[e]++
		}
	}
	if count[api.OK] < 500 || count[api.ErrIncompatible] < 20000 || len(count) != 2 {
		t.Errorf("the test is wrong: %v", count)
	}
}

// smallSchemas are all whose ids are at most highest, each of whose columns has one of these lines.
func smallSchemas(highest int, lines ...string) []api.Schema {
	texts := []string{""}
	for id := 1; id <= highest; id++ {
		for _, text := range texts {
			for _, line := range lines {
				texts = append(texts, text+fmt.Sprintf(line, id, id))
			}
		}
	}
	var l []api.Schema
	for _, text := range texts[1:] {
		l = append(l, read(text))
	}
	return l
}

// P12.2: Chain is that of the words, of all triples of small schemas.
func TestChainIsThatOfTheWordsOfAllSmallTriples(t *testing.T) {
	all := smallSchemas(4, "%d c%d int32 0/", "%d c%d int64 0/")
	count := map[api.Errno]int{}
	for _, a := range all {
		for _, b := range all {
			if !wordMay(a, b) {
				wantChain(t, chain(a, b), api.ErrIncompatible)
				continue
			}
			for _, c := range all {
				e := wordChain(chain(a, b, c))
				wantChain(t, chain(a, b, c), e)
				count[e]++
			}
		}
	}
	if count[api.OK] < 1000 || count[api.ErrIncompatible] < 1000 || len(count) != 2 {
		t.Errorf("the test is wrong: %v", count)
	}
}

// P12.1, P12.3: Step and Move are those of the words, of scattered schemas and rows, right and spoilt ones.
func TestMoveIsThatOfTheWords(t *testing.T) {
	next := scatter()
	count := map[api.Errno]int{}
	for range 30000 {
		a := scatteredSchema(next, 1+next(5))
		b := later(next, a, highestId(a))
		r := scatteredRow(next, a)
		switch next(6) {
		case 0, 1:
			b = spoilt(next, b)
		case 2:
			a = spoilt(next, a)
		case 3:
			r = spoiltRow(next, r)
		}
		wantStep(t, a, b, wordStep(a, b))
		want, e := wordMove(a, b, r)
		wantMove(t, a, b, r, want, e)
		count[e]++
	}
	for _, e := range []api.Errno{api.OK, api.ErrArg, api.ErrIncompatible, api.ErrRow, api.ErrCell} {
		if count[e] < 500 {
			t.Errorf("the test is wrong: %v", count)
		}
	}
}

// P12.2, P12.4: Chain and Carry are those of the words, of scattered chains and rows, right and spoilt ones.
func TestCarryIsThatOfTheWords(t *testing.T) {
	next := scatter()
	count := map[api.Errno]int{}
	for range 20000 {
		l := scatteredChain(next, 1+next(6))
		from := 1 + next(len(l))
		to := from + next(len(l)-from+1)
		r := scatteredRow(next, l[from-1])
		switch at := next(len(l)); next(8) {
		case 0, 1:
			l[at] = spoilt(next, l[at])
		case 2:
			l[at] = l[next(len(l))]
		case 3:
			from, to = next(len(l)+3)-1, next(len(l)+3)-1
		case 4:
			r = spoiltRow(next, r)
		}
		wantChain(t, l, wordChain(l))
		want, e := wordCarry(l, from, to, r)
		wantCarry(t, l, from, to, r, want, e)
		count[e]++
	}
	for _, e := range []api.Errno{api.OK, api.ErrArg, api.ErrIncompatible, api.ErrVersion, api.ErrRow, api.ErrCell} {
		if count[e] < 300 {
			t.Errorf("the test is wrong: %v", count)
		}
	}
}

// roomy is a list with spare room behind it, and all of that.
func roomy[T any](list []T, spare T) (l, room []T) {
	room = append(slices.Clone(list), spare, spare, spare)
	return room[:len(list):len(room)], room
}

// held is schemas and a row, in memory with spare room, and how all of that was.
type held struct {
	chain, chainRoom, hadChain []api.Schema
	row, rowRoom, hadRow       []api.Cell
	columns, hadColumns        [][]api.Column
	keys, hadKeys              [][]int
}

func hold(l []api.Schema, r []api.Cell) *held {
	h := &held{}
	var roomies []api.Schema
	for _, s := range l {
		columns, columnsRoom := roomy(s.Columns, api.Column{Id: 99, Name: "spare"})
		keys, keysRoom := roomy(s.Keys, 77)
		roomies = append(roomies, api.Schema{Columns: columns, Keys: keys})
		h.columns, h.hadColumns = append(h.columns, columnsRoom), append(h.hadColumns, slices.Clone(columnsRoom))
		h.keys, h.hadKeys = append(h.keys, keysRoom), append(h.hadKeys, slices.Clone(keysRoom))
	}
	h.chain, h.chainRoom = roomy(roomies, read(`1 spare bool false/`))
	h.row, h.rowRoom = roomy(r, run("spare"))
	h.hadChain, h.hadRow = slices.Clone(h.chainRoom), slices.Clone(h.rowRoom)
	return h
}

// isAsItWas tells whether nothing was written to what is held.
func (h *held) isAsItWas() bool {
	for i := range h.columns {
		if !slices.Equal(h.columns[i], h.hadColumns[i]) || !slices.Equal(h.keys[i], h.hadKeys[i]) {
			return false
		}
	}
	return slices.EqualFunc(h.chainRoom, h.hadChain, schema.Same) && slices.Equal(h.rowRoom, h.hadRow)
}

// P12.5: what is handed in is only read, its spare room neither written to.
func TestWhatIsHandedInIsOnlyRead(t *testing.T) {
	next := scatter()
	for range 1000 {
		l := scatteredChain(next, 2+next(3))
		r := scatteredRow(next, l[0])
		if next(2) == 0 {
			at := next(len(l))
			l[at] = spoilt(next, l[at])
		}
		h := hold(l, r)
		Step(h.chain[0], h.chain[1])
		Chain(h.chain)
		Move(h.chain[0], h.chain[1], h.row)
		Carry(h.chain, 1, len(l), h.row)
		Carry(h.chain, 1, 1, h.row)
		Chain(h.chain[:1])
		Carry(h.chain[:1], 1, 1, h.row)
		if !h.isAsItWas() {
			t.Fatalf("what was handed in is another: %s, %s", told(h.chainRoom...), toldRow(h.rowRoom))
		}
	}
}

// spoil writes over all of a row's memory, its spare room too.
func spoil(r []api.Cell) {
	r = r[:cap(r)]
	for i := range r {
		r[i] = api.Cell{N: 123, S: "spoilt"}
	}
}

// P12.5: what is answered is new memory, each time: of a row that is moved to its own schema, or carried by no step, too.
func TestWhatIsAnsweredIsNewMemory(t *testing.T) {
	a, b := read(`1 id int32* 0/2 s string "d"/`), read(`1 id int32* 0/2 s string "d"/3 n int64? 7/`)
	h := hold(chain(a, b, b, read(`1 id int64* 0/3 n int64? 7/`)), of(num(5), run("x")))
	for what, ask := range map[string]func() ([]api.Cell, api.Errno){
		"Move":              func() ([]api.Cell, api.Errno) { return Move(h.chain[0], h.chain[1], h.row) },
		"Move to itself":    func() ([]api.Cell, api.Errno) { return Move(h.chain[0], h.chain[0], h.row) },
		"Carry by no step":  func() ([]api.Cell, api.Errno) { return Carry(h.chain, 1, 1, h.row) },
		"Carry by one step": func() ([]api.Cell, api.Errno) { return Carry(h.chain, 1, 2, h.row) },
		"Carry by all":      func() ([]api.Cell, api.Errno) { return Carry(h.chain, 1, 4, h.row) },
	} {
		first, e := ask()
		second, _ := ask()
		want := slices.Clone(second)
		if e != api.OK || len(want) == 0 {
			t.Fatalf("the test is wrong: %s: %d", what, e)
		}
		spoil(first)
		if !slices.Equal(second, want) {
			t.Errorf("%s: two answers share memory", what)
		}
		spoil(second)
		if !h.isAsItWas() {
			t.Errorf("%s: shares memory with what was handed in", what)
		}
		if third, _ := ask(); !slices.Equal(third, want) {
			t.Errorf("%s: is another one now: %s", what, toldRow(third))
		}
	}
}
