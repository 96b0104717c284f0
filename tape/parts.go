package tape

import (
	"cmp"
	"slices"

	"millstream/api"
)

// Kids are the places of the root's parts.
func Kids(t []api.Node) []int {
	if Check(t) != api.OK {
		return nil
	}
	return partsOf(t, 0)
}

// Part is the tape at a place.
func Part(t []api.Node, at int) []api.Node {
	if at < 0 || at >= len(t) || Check(t) != api.OK {
		return nil
	}
	return cut(t, at)
}

// Get is what stands beside a key.
func Get(t []api.Node, key string) ([]api.Node, bool) {
	if Check(t) != api.OK || t[0].Kind != api.KObj {
		return nil, false
	}
	for _, at := range partsOf(t, 0) {
		if t[at].Key == key {
			return cut(t, at), true
		}
	}
	return nil, false
}

// Same compares two, objects without their order.
func Same(a, b []api.Node) bool {
	sorted := Sorted(a)
	// What may not be is sorted as nothing: that is not the same as nothing else.
	return len(sorted) > 0 && slices.Equal(sorted, Sorted(b))
}

// Sorted is one with all members by rising keys.
func Sorted(t []api.Node) []api.Node {
	if Check(t) != api.OK {
		return nil
	}
	sorted := make([]api.Node, 0, len(t))
	var put func(at int)
	put = func(at int) {
		sorted = append(sorted, t[at])
		places := partsOf(t, at)
		if t[at].Kind == api.KObj {
			slices.SortFunc(places, func(a, b int) int {
				return cmp.Compare(t[a].Key, t[b].Key)
			})
		}
		for _, place := range places {
			put(place)
		}
	}
	put(0)
	return sorted
}

// partsOf are the places of the parts of the value at a place.
func partsOf(t []api.Node, at int) []int {
	var places []int
	end := at + t[at].Size
	for part := at + 1; part < end; part += t[part].Size {
		places = append(places, part)
	}
	return places
}

// cut is the tape of the value at a place, by itself.
func cut(t []api.Node, at int) []api.Node {
	part := slices.Clone(t[at : at+t[at].Size])
	part[0].Key = ""
	return part
}
