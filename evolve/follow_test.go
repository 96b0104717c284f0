package evolve

import (
	"testing"

	"millstream/api"
	"millstream/row"
)

// chainsThatMay are such: chosen ones at the edges, and scattered ones.
func chainsThatMay() [][]api.Schema {
	l := [][]api.Schema{
		chain(read(`1 id int32* 0/2 s string "d"/`), read(`1 id int32* 0/`), read(`1 id int64* 0/4 n int64? null/`)),
		chain(read(`1 a bool false/`), read(`2 a int32 0/`), read(`3 a string ""/`), read(`1048576 a bytes? null/`)),
	}
	next := scatter()
	for many := range 2000 {
		l = append(l, scatteredChain(next, 1+many%7))
	}
	return append(l, scatteredChain(next, 64), scatteredChain(next, 64))
}

// P12.6: a schema may follow itself, however often, and a row moved to it is that row.
func TestASchemaFollowsItself(t *testing.T) {
	next := scatter()
	for many := range 2000 {
		s := scatteredSchema(next, 1+many%32)
		wantStep(t, s, s, api.OK)
		wantChain(t, chain(s, s, s), api.OK)
		r := scatteredRow(next, s)
		wantMove(t, s, s, r, r, api.OK)
		wantCarry(t, chain(s, s, s), 1, 3, r, r, api.OK)
		wantCarry(t, chain(s, s, s), 2, 2, r, r, api.OK)
	}
}

// P12.6: a row that is moved is a row of the schema to which it was, and has the same key.
func TestMovedRowsAreRowsOfTheSameKey(t *testing.T) {
	next := scatter()
	keys := 0
	for range 20000 {
		a := scatteredSchema(next, 1+next(6))
		b := later(next, a, highestId(a)+next(2))
		r := scatteredRow(next, a)
		m, e := Move(a, b, r)
		if e != api.OK || row.Check(b.Columns, m) != api.OK {
			t.Fatalf("Move of %s, of %s: %s, %d: no row of the second one", told(a, b), toldRow(r), toldRow(m), e)
		}
		was, wasE := row.Key(a.Columns, a.Keys, r)
		is, isE := row.Key(b.Columns, b.Keys, m)
		if was != is || wasE != api.OK || isE != api.OK {
			t.Fatalf("Move of %s, of %s: %s: the key was % x, %d, and is % x, %d", told(a, b), toldRow(r), toldRow(m), was, wasE, is, isE)
		}
		if was != "" {
			keys++
		}
	}
	if keys < 5000 {
		t.Errorf("the test is wrong: %d", keys)
	}
}

// P12.7: in a chain each may follow each earlier one, and to be carried is to be moved at once; a part of a chain is one, too.
func TestAChainIsOneAtOnce(t *testing.T) {
	next := scatter()
	for _, l := range chainsThatMay() {
		wantChain(t, l, api.OK)
		for range min(40, len(l)*len(l)) {
			from := 1 + next(len(l))
			to := from + next(len(l)-from+1)
			a, b := l[from-1], l[to-1]
			wantStep(t, a, b, api.OK)
			wantChain(t, l[from-1:to], api.OK)
			wantChain(t, chain(l[0], a, b, l[len(l)-1]), api.OK)
			r := scatteredRow(next, a)
			m, e := Move(a, b, r)
			if e != api.OK {
				t.Fatalf("Move of %s, of %s: %d", told(a, b), toldRow(r), e)
			}
			wantCarry(t, l, from, to, r, m, api.OK)
		}
	}
}

// P12.8: to carry from one to another one, and from that to a third one, is to carry from the first to the third.
func TestCarryByWayOfAnotherOne(t *testing.T) {
	next := scatter()
	for _, l := range chainsThatMay() {
		for range min(20, len(l)*len(l)) {
			from := 1 + next(len(l))
			to := from + next(len(l)-from+1)
			by := from + next(to-from+1)
			r := scatteredRow(next, l[from-1])
			want, e := Carry(l, from, to, r)
			if e != api.OK {
				t.Fatalf("Carry along %s, from %d to %d, of %s: %d", told(l...), from, to, toldRow(r), e)
			}
			half, e := Carry(l, from, by, r)
			if e != api.OK {
				t.Fatalf("Carry along %s, from %d to %d, of %s: %d", told(l...), from, by, toldRow(r), e)
			}
			wantCarry(t, l, by, to, half, want, api.OK)
		}
	}
}
