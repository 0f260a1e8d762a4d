package octet

import (
	"bytes"

	"halyard/api"
)

// Reader: bytes that are read from the front. The first fault stays.
type Reader struct {
	made  bool // by New: a Reader that is not has no bytes to tell of, and ErrArg for a fault
	all   []byte
	place int
	fault api.Errno
}

// New: a Reader at the front of a copy of b.
func New(b []byte) *Reader { return &Reader{made: true, all: bytes.Clone(b)} }

// Number: a number, most at most.
func (r *Reader) Number(most uint64) uint64 {
	if r.Err() != api.OK {
		return 0
	}
	n, size, e := r.ahead(most)
	if e != api.OK {
		r.fault = e
		return 0
	}
	r.place += size
	return n
}

// Bytes: a list of most bytes at most.
func (r *Reader) Bytes(most int) []byte {
	if r.Err() != api.OK {
		return nil
	}
	if most < 0 {
		r.fault = api.ErrArg
		return nil
	}
	n, size, e := r.ahead(uint64(most))
	if e == api.OK && n > uint64(r.Left()-size) {
		e = api.ErrShort
	}
	if e != api.OK {
		r.fault = e
		return nil
	}
	r.place += size
	return r.Take(int(n))
}

// Take: n bytes as they stand.
func (r *Reader) Take(n int) []byte {
	if r.Err() != api.OK {
		return nil
	}
	if n < 0 {
		r.fault = api.ErrArg
		return nil
	}
	if n > r.Left() {
		r.fault = api.ErrShort
		return nil
	}
	x := bytes.Clone(r.all[r.place : r.place+n])
	r.place += n
	return x
}

// Left: how many bytes are behind its place.
func (r *Reader) Left() int {
	if r == nil {
		return 0
	}
	return len(r.all) - r.place
}

// Fail: e becomes the fault, if there is none yet.
func (r *Reader) Fail(e api.Errno) {
	if r.Err() == api.OK {
		r.fault = e
	}
}

// Err: the fault; api.OK, if there is none.
func (r *Reader) Err() api.Errno {
	if r == nil || !r.made {
		return api.ErrArg
	}
	return r.fault
}

// End: the fault; api.ErrRest, if there is none and bytes are left.
func (r *Reader) End() api.Errno {
	if r.Left() > 0 {
		r.Fail(api.ErrRest)
	}
	return r.Err()
}

// ahead: the number behind the place, and how many bytes it has; the place stays.
func (r *Reader) ahead(most uint64) (uint64, int, api.Errno) {
	n, size, e := Number(r.all[r.place:])
	if e == api.OK && n > most {
		return 0, 0, api.ErrNumber
	}
	return n, size, e
}
