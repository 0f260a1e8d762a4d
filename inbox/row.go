package inbox

import (
	"cmp"
	"slices"
)

// row: so many sessions at most, with what is held of each, in the order in which they were touched.
type row[T any] struct {
	most    int // 0: it was not made
	touches uint64
	held    map[Session]held[T]
}

type held[T any] struct {
	thing   T
	touched uint64 // at which touch of the row: no two have the same
}

func newRow[T any](most int) row[T] {
	return row[T]{most: most, held: map[Session]held[T]{}}
}

func (r *row[T]) get(s Session) (T, bool) {
	h, ok := r.held[s]
	return h.thing, ok
}

// put: a session is there with that, and touched; if it is a new one for which there is no room, the one that was touched least lately goes.
func (r *row[T]) put(s Session, thing T) {
	if _, ok := r.held[s]; !ok && len(r.held) >= r.most {
		delete(r.held, r.oldest())
	}
	r.touches++
	r.held[s] = held[T]{thing, r.touches}
}

// oldest: the session that was touched least lately.
func (r *row[T]) oldest() Session {
	var oldest Session
	least := r.touches + 1
	for s, h := range r.held {
		if h.touched < least {
			oldest, least = s, h.touched
		}
	}
	return oldest
}

// drop: a session is there no more; was it?
func (r *row[T]) drop(s Session) bool {
	_, ok := r.held[s]
	delete(r.held, s)
	return ok
}

// empty: none is there any more.
func (r *row[T]) empty() { clear(r.held) }

// sessions: the one that was touched least lately first.
func (r *row[T]) sessions() []Session {
	var all []Session
	for s := range r.held {
		all = append(all, s)
	}
	slices.SortFunc(all, func(a, b Session) int {
		return cmp.Compare(r.held[a].touched, r.held[b].touched)
	})
	return all
}
