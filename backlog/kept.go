package backlog

import (
	"bytes"
	"cmp"
	"maps"
	"slices"

	"halyard/api"
)

// lastPlace: behind it nothing has a place.
const lastPlace = 1 << 62

// stream: what must be known of it for ever, also where none of its frames is there.
type stream struct {
	open   bool
	next   uint64    // the number of the frame that comes next
	newest api.Stamp // zero while next is 0: there is none then
}

// below: is the stamp above all that the stream ever had?
func (s stream) below(stamp api.Stamp) bool { return s.next == 0 || s.newest.Less(stamp) }

// place: where a frame stands among the others, from 1 on. Stamps and numbers do not tell it: frames of several streams come in any order.
type place struct{ at uint64 }

// kept: a frame that is there.
type kept struct {
	place
	api.Frame
}

func (k kept) key() api.Key { return api.Key{Stream: k.Stream, Seq: k.Stamp.Seq} }

// clone: the frame with data of its own.
func clone(f api.Frame) api.Frame {
	f.Data = bytes.Clone(f.Data)
	return f
}

// clock: a time that is above all counts as the greatest one.
func clock(now uint64) uint64 { return min(now, api.MaxNumber) }

// ordered: the frames that are there, by their places.
func (b *Backlog) ordered() []kept {
	all := slices.Collect(maps.Values(b.frames))
	slices.SortFunc(all, func(one, other kept) int { return cmp.Compare(one.at, other.at) })
	return all
}

// last: the greatest place of those that are there; 0, if none is.
func (b *Backlog) last() (most uint64) {
	for _, f := range b.frames {
		most = max(most, f.at)
	}
	return most
}

// refuses: why the frame is not taken; OK, if it is for the table to say.
func (b *Backlog) refuses(f api.Frame, now uint64) api.Errno {
	s := b.stream(f.Stream)
	switch {
	case s == nil:
		fallthrough
	case f.Stamp.Time > api.MaxNumber:
		fallthrough
	case f.Life > api.MaxNumber:
		return api.ErrArg
	case !s.open:
		return api.ErrStream
	case len(f.Data) > api.MaxData:
		return api.ErrSize
	case f.Over(now):
		return api.ErrExpired
	case len(b.frames) == api.MaxPending:
		return api.ErrFull
	case s.next > api.MaxNumber:
		fallthrough
	case b.last() == lastPlace:
		return api.ErrEnd
	}
	return api.OK
}

// take: the frame is there, and its stream has gone on, all in one commit.
func (b *Backlog) take(f api.Frame) (taken api.Frame, newest bool, e api.Errno) {
	next := b.streams[f.Stream]
	newest = next.below(f.Stamp)
	next.next++
	if newest {
		next.newest = f.Stamp
	}
	k := kept{place{b.last() + 1}, clone(f)}
	if e := b.change(f.Stream, next, k.change()); e != api.OK {
		return api.Frame{}, false, e
	}
	b.frames[k.key()] = k
	return clone(f), newest, api.OK
}
