package evolve

import (
	"iter"
	"slices"

	"millstream/api"
	"millstream/schema"
)

// isChain tells whether schemas that may be are a chain.
func isChain(l []api.Schema) bool {
	highest := 0 // of the ids of all ahead, for an id that went may not come again
	for version, s := range l {
		if version > 0 && !mayFollow(l[version-1], s, highest) {
			return false
		}
		for _, id := range ids(s) {
			highest = max(highest, id)
		}
	}
	return true
}

// mayFollow tells whether b may follow a, if ids that come must be above the highest one of all ahead, a among these.
func mayFollow(a, b api.Schema, highest int) bool {
	// mayStay tells whether a column of a may stay as the one of b of its id, by their places.
	mayStay := func(before, behind int) bool {
		old, kept := a.Columns[before], b.Columns[behind]
		return old.Name == kept.Name && old.Default == kept.Default && (old.Type == kept.Type || isWider(kept.Type, old.Type))
	}
	for behind, id := range ids(b) {
		before, isThere := schema.Place(a, id)
		if isThere && !mayStay(before, behind) || !isThere && id <= highest {
			return false
		}
	}
	return slices.Equal(keyIds(a), keyIds(b))
}

// isWider tells whether a type is that of int64 in the place of one of int32.
func isWider(t, old api.Type) bool {
	return old.Kind == api.TInt32 && t == api.Type{Kind: api.TInt64, Null: old.Null}
}

// keyIds are the ids of the columns that are the key.
func keyIds(s api.Schema) []int {
	var keys []int
	for place, id := range ids(s) {
		if slices.Contains(s.Keys, place) {
			keys = append(keys, id)
		}
	}
	return keys
}

// ids walks the ids of a schema, each with its column's place.
func ids(s api.Schema) iter.Seq2[int, int] {
	return func(yield func(place, id int) bool) {
		for place, col := range s.Columns {
			if !yield(place, col.Id) {
				return
			}
		}
	}
}
