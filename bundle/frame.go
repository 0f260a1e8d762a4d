package bundle

import (
	"bytes"

	"halyard/api"
)

// Of a bundle that Wrap makes.
const (
	hopNumber = 2
	ageNumber = 3
	hopLimit  = 8
)

// Wrap: the bundle that carries a frame from a node to another one.
func Wrap(f api.Frame, from, to uint64, newest bool) (Bundle, api.Errno) {
	if f.Stream < 0 || f.Stream >= api.MaxStreams || !numbers(f.Stamp.Time, f.Stamp.Seq, f.Life, from, to) {
		return Bundle{}, api.ErrArg
	}
	if len(f.Data) > api.MaxData {
		return Bundle{}, api.ErrSize
	}
	stream := uint64(f.Stream)
	b := Bundle{
		Flags:    Streamed | Wanted,
		Dest:     EID{to, stream},
		Source:   EID{from, stream},
		ReportTo: EID{from, 0},
		Stamp:    f.Stamp,
		Life:     f.Life,
		Blocks: []Block{
			{Type: HopType, Number: hopNumber, Data: lay(nil, hopLimit, 0)},
			{Type: AgeType, Number: ageNumber, Data: lay(nil, 0)},
		},
		Payload: bytes.Clone(f.Data),
	}
	if newest {
		b.Flags |= Newest
	}
	return b, api.OK
}

// Open: the frame that a bundle carries; where it comes from; was it the newest one?
func Open(b Bundle) (f api.Frame, from uint64, newest bool, e api.Errno) {
	if e := Valid(b); e != api.OK {
		return f, 0, false, e
	}
	if !carries(b) {
		return f, 0, false, api.ErrFrame
	}
	f = api.Frame{Stream: int(b.Source.Service), Stamp: b.Stamp, Life: b.Life, Data: bytes.Clone(b.Payload)}
	return f, b.Source.Node, b.Flags&Newest != 0, api.OK
}

// Hop: the bundle with one hop more.
func Hop(b Bundle) (Bundle, api.Errno) {
	return turned(b, HopType, func(data []byte) ([]byte, api.Errno) {
		h := readHops(data)
		if h.count == h.limit {
			return nil, api.ErrEnd
		}
		return lay(nil, h.limit, h.count+1), api.OK
	})
}

// Aged: the bundle, older by so many ticks.
func Aged(b Bundle, ticks uint64) (Bundle, api.Errno) {
	return turned(b, AgeType, func(data []byte) ([]byte, api.Errno) {
		a := readAge(data)
		// The other way round than the sum, which might wrap.
		if ticks > api.MaxNumber-a.ticks {
			return nil, api.ErrEnd
		}
		return lay(nil, a.ticks+ticks), api.OK
	})
}

// carries: does a good bundle carry a frame?
func carries(b Bundle) bool {
	return b.Flags&Streamed != 0 && b.Dest.Service == b.Source.Service && b.Source.Service < api.MaxStreams
}

// turned: the bundle with other Data in its block of a type.
func turned(b Bundle, kind uint64, turn func(data []byte) ([]byte, api.Errno)) (Bundle, api.Errno) {
	if e := Valid(b); e != api.OK {
		return Bundle{}, e
	}
	i := place(b.Blocks, kind)
	if i < 0 {
		return Bundle{}, api.ErrNone
	}
	data, e := turn(b.Blocks[i].Data)
	if e != api.OK {
		return Bundle{}, e
	}
	out := b.clone()
	out.Blocks[i].Data = data
	if e := fits(out); e != api.OK {
		return Bundle{}, e
	}
	return out, api.OK
}
