package registry

import (
	"fmt"
	"slices"
	"testing"

	"millstream/api"
	"millstream/evolve"
	"millstream/schema"
)

// P13.6: whatever is added, the versions of each subject are a chain, and those that were there stay as they were.
func TestAVersionNeverChanges(t *testing.T) {
	next := scatter()
	longest := 0
	for range 300 {
		r := New()
		had := map[string][]api.Schema{}
		for range 60 {
			subject := one(next, []string{"a", "b", "c", "A"})
			r.Add(subject, later(next, had[subject]))
			for _, name := range r.Subjects() {
				l := r.Chain(name)
				if e := evolve.Chain(l); e != api.OK {
					t.Fatalf("Chain of %q is none: %s: %d", name, told(l...), e)
				}
				if len(l) < len(had[name]) || !isSameChain(l[:len(had[name])], had[name]) {
					t.Fatalf("Chain of %q: %s, it was %s", name, told(l...), told(had[name]...))
				}
				if r.Last(name) != len(l) || len(l) == 0 {
					t.Fatalf("Last of %q: %d; not %d", name, r.Last(name), len(l))
				}
				had[name] = l
				longest = max(longest, len(l))
			}
		}
	}
	if longest < 10 {
		t.Errorf("the test is wrong: %d", longest)
	}
}

// P13.6: a row of any version goes to any later one, however many came behind it, and is the row that it was.
func TestARowOfAnyVersionMoves(t *testing.T) {
	next := scatter()
	for range 100 {
		r, w := New(), &wordRegistry{}
		for range 30 {
			s := later(next, w.chain("a"))
			r.Add("a", s)
			w.add("a", s)
		}
		last := r.Last("a")
		for from := 1; from <= last; from++ {
			s, _ := r.Get("a", from)
			row := make([]api.Cell, len(s.Columns))
			for i, col := range s.Columns {
				row[i] = one(next, cellsOf(col))
			}
			want := row
			for to := from; to <= last; to++ {
				wantMove(t, r, "a", from, to, row, want, api.OK)
				if to == last {
					break
				}
				behind, e := r.Move("a", to, to+1, want)
				if e != api.OK {
					t.Fatalf("Move of %v: %d", want, e)
				}
				want = behind
			}
		}
	}
}

// P13.7: calls of several subjects, mixed, answer of each what they answer in a registry that has that one alone.
func TestSubjectsDoNotTouchEachOther(t *testing.T) {
	next := scatter()
	for many := range 200 {
		var names []string
		alone := map[string]*Registry{}
		for i := range 1 + many%16 {
			names = append(names, fmt.Sprintf("s%d", i))
			alone[names[i]] = New()
		}
		together := New()
		for range 100 {
			name := one(next, names)
			s := later(next, alone[name].Chain(name))
			version, e := alone[name].Add(name, s)
			wantAdd(t, together, name, s, version, e)
			other := one(next, names)
			if got, want := together.Chain(other), alone[other].Chain(other); !isSameChain(got, want) {
				t.Fatalf("Chain of %q: %s; not %s", other, told(got...), told(want...))
			}
			from, to := 1+next(together.Last(other)+1), 1+next(together.Last(other)+1)
			at, _ := alone[other].Get(other, from)
			if schema.Check(at) != api.OK {
				at = s1()
			}
			row := rowFor(next, at)
			want, e := alone[other].Move(other, from, to, row)
			wantMove(t, together, other, from, to, row, want, e)
		}
		names = slices.DeleteFunc(names, func(name string) bool { return alone[name].Last(name) == 0 })
		slices.Sort(names)
		wantSubjects(t, together, names...)
	}
}
