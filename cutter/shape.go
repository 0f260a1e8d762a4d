package cutter

import "halyard/api"

// shape: what is known of a box's sizes: whether one more segment goes with the others hangs on this alone, not on their bytes.
type shape struct {
	count  int // 0: New did not make this box
	length int // bytes of each segment but the last; 0: none of them is there
	last   int // bytes of the last one; 0: it is not there
}

// numbers: is there a segment of that number?
func (s shape) numbers(index int) bool { return index >= 0 && index < s.count }

// with: the shape with a further segment, and whether a box of it fits.
func (s shape) with(index, size int) (shape, bool) {
	switch {
	case index == s.count-1:
		s.last = size
	case s.length == 0:
		s.length = size
	case s.length != size:
		return shape{}, false
	}
	return s, s.fits()
}

func (s shape) fits() bool {
	return (s.length == 0 || s.last <= s.length) && s.least() <= api.MaxBlock
}

// least: the bytes of the least block that could come of it.
func (s shape) least() int {
	if s.length == 0 { // none of those that are to come may be shorter than the last one
		return s.count * s.last
	}
	return (s.count-1)*s.length + max(s.last, 1)
}
