package registry

import (
	"maps"
	"slices"

	"millstream/api"
	"millstream/evolve"
	"millstream/schema"
)

// snapshot is all that a registry has at a time. None is written to behind the pointer: what comes makes another one.
type snapshot struct {
	chains map[string][]api.Schema // the versions, by subjects
}

// maker makes of a snapshot the next one, and tells the number of the version that was asked for; beside an error there is no next one.
type maker func(had *snapshot) (next *snapshot, version int, e api.Errno)

// adding makes the snapshot in which a schema that may be is the last version of a subject.
func adding(subject string, s api.Schema) maker {
	return func(had *snapshot) (*snapshot, int, api.Errno) {
		chain, isThere := had.chains[subject]
		last := len(chain)
		if isThere && schema.Same(chain[last-1], s) {
			return had, last, api.OK
		}
		if last == api.MaxVersions || !isThere && len(had.chains) == api.MaxSubjects {
			return nil, 0, api.ErrLimit
		}
		// Put together in new memory: spare room of the chain may be that of another snapshot, too.
		longer := slices.Concat(chain, []api.Schema{schema.Copy(s)})
		if evolve.Chain(longer) != api.OK {
			return nil, 0, api.ErrIncompatible
		}
		next := &snapshot{chains: maps.Clone(had.chains)}
		next.chains[subject] = longer
		return next, last + 1, api.OK
	}
}

// exchange puts what is made of the snapshot that is there in its place, as a whole.
func (r *Registry) exchange(making maker) (int, api.Errno) {
	for {
		had := r.has.Load()
		next, version, e := making(had)
		if e != api.OK {
			return 0, e
		}
		// If another one has come between, the next one is made of that. So it ends: each that comes has a version more, and there are only so many.
		if r.has.CompareAndSwap(had, next) {
			return version, api.OK
		}
	}
}
