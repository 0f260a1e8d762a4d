package pages

import (
	"iter"
	"slices"

	"halyard/api"
)

// from: the pages from that of s on, and how many entries of the first one stand ahead of s.
func (x *Index[V]) from(s api.Stamp) (pages [][]entry[V], ahead int) {
	page, at, _ := x.Place(s)
	return x.all()[page:], at
}

// upTo: the pages up to that of s, and how many entries of the last one are not above s.
func (x *Index[V]) upTo(s api.Stamp) (pages [][]entry[V], count int) {
	page, at, found := x.Place(s)
	if found {
		at++
	}
	pages = x.all()
	return pages[:min(page+1, len(pages))], at
}

// rising: the entries of the pages, but for so many of the first one that stand ahead.
func rising[V any](pages [][]entry[V], ahead int) iter.Seq[entry[V]] {
	return func(yield func(entry[V]) bool) {
		for i, entries := range pages {
			if i == 0 {
				entries = entries[ahead:]
			}
			for _, e := range entries {
				if !yield(e) {
					return
				}
			}
		}
	}
}

// falling: the entries of the pages from the last one on, of which count are meant.
func falling[V any](pages [][]entry[V], count int) iter.Seq[entry[V]] {
	return func(yield func(entry[V]) bool) {
		for i, entries := range slices.Backward(pages) {
			if i == len(pages)-1 {
				entries = entries[:count]
			}
			for _, e := range slices.Backward(entries) {
				if !yield(e) {
					return
				}
			}
		}
	}
}

// firstOf: the first entry, and whether there is one.
func firstOf[V any](entries iter.Seq[entry[V]]) (s api.Stamp, v V, ok bool) {
	for e := range entries {
		return e.stamp, e.value, true
	}
	return s, v, false
}

// Least: the least stamp at s or above it; Greatest: the greatest one at s or below it.
func (x *Index[V]) Least(s api.Stamp) (api.Stamp, V, bool) {
	return firstOf(rising(x.from(s)))
}

func (x *Index[V]) Greatest(s api.Stamp) (api.Stamp, V, bool) {
	return firstOf(falling(x.upTo(s)))
}

// Up: the stamps from s on, rising, with their values; Down: from s on, falling. The row of the pages is copied, as it changes while somebody goes along it; the pages themselves don't.
func (x *Index[V]) Up(s api.Stamp) iter.Seq2[api.Stamp, V] {
	return func(yield func(api.Stamp, V) bool) {
		pages, ahead := x.from(s)
		for e := range rising(slices.Clone(pages), ahead) {
			if !yield(e.stamp, e.value) {
				return
			}
		}
	}
}

func (x *Index[V]) Down(s api.Stamp) iter.Seq2[api.Stamp, V] {
	return func(yield func(api.Stamp, V) bool) {
		pages, count := x.upTo(s)
		for e := range falling(slices.Clone(pages), count) {
			if !yield(e.stamp, e.value) {
				return
			}
		}
	}
}
