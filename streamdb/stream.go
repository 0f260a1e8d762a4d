package streamdb

import (
	"bytes"

	"halyard/api"
	"halyard/pages"
)

// pageSize: entries of an index's page; a stream has 64 frames at most.
const pageSize = 16

// mark: a stamp, or none yet.
type mark struct {
	is    bool
	stamp api.Stamp
}

// below: does the stamp stand above the mark, or is there none?
func (m mark) below(s api.Stamp) bool { return !m.is || m.stamp.Less(s) }

// known: of a stream, beside its frames. Two of them are held against each other to see whether the table must be told.
type known struct {
	heard       bool
	quota       api.Quota
	high, floor mark
}

// stream: what is known of it, and its frames.
type stream struct {
	known
	frames *pages.Index[api.Frame]
}

func newFrames() *pages.Index[api.Frame] {
	frames, _ := pages.New[api.Frame](pageSize)
	return frames
}

// clone: the frame with data of its own.
func clone(f api.Frame) api.Frame {
	f.Data = bytes.Clone(f.Data)
	return f
}

// holds: are so many frames and bytes within the quota?
func holds(q api.Quota, frames, bytes int) bool { return frames <= q.Count && bytes <= q.Bytes }

// countFrom: the frames from a stamp on, and the bytes of their data.
func (s *stream) countFrom(from api.Stamp) (frames, bytes int) {
	for _, f := range s.frames.Up(from) {
		frames++
		bytes += len(f.Data)
	}
	return frames, bytes
}

// list: the frames that are asked for, rising.
func (s *stream) list(asked func(api.Frame) bool) (out []api.Frame) {
	for _, f := range s.frames.Up(api.Stamp{}) {
		if asked(f) {
			out = append(out, f)
		}
	}
	return out
}

// fits: may a table say this of a stream?
func (s *stream) fits() bool {
	frames, bytes := s.countFrom(api.Stamp{})
	if !s.heard {
		return frames == 0
	}
	first, _, some := s.frames.Least(api.Stamp{})
	return s.quota.Valid() && holds(s.quota, frames, bytes) && (!some || s.floor.below(first))
}
