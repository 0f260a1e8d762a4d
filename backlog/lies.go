package backlog

import (
	"halyard/api"
	"halyard/octet"
	"halyard/table"
)

// The first byte of a key, and the number behind it: of what kind it is.
const (
	ownMark    = 98
	streamKind = 0
	frameKind  = 1
)

func streamKey(stream int) []byte {
	return appendNumbers([]byte{ownMark}, streamKind, uint64(stream))
}

func frameKey(k api.Key) []byte {
	return appendNumbers([]byte{ownMark}, frameKind, uint64(k.Stream), k.Seq)
}

func appendNumbers(b []byte, numbers ...uint64) []byte {
	for _, n := range numbers {
		b = octet.AppendNumber(b, n)
	}
	return b
}

// change: by which the table says this of a stream.
func (s stream) change(number int) table.Change {
	open := uint64(0)
	if s.open {
		open = 1
	}
	value := appendNumbers(nil, open, s.next)
	if s.next > 0 {
		value = appendNumbers(value, s.newest.Time, s.newest.Seq)
	}
	return table.Change{Key: streamKey(number), Value: value}
}

// change: by which the frame is there.
func (k kept) change() table.Change {
	value := octet.AppendBytes(appendNumbers(nil, k.at, k.Stamp.Time, k.Life), k.Data)
	return table.Change{Key: frameKey(k.key()), Value: value}
}

// read: one of the table's pairs under the own mark; has it one of the forms?
func (b *Backlog) read(key, value []byte) bool {
	k, v := octet.New(key[1:]), octet.New(value)
	kind, stream := k.Number(frameKind), int(k.Number(api.MaxStreams-1))
	if kind == streamKind {
		b.streams[stream] = readStream(v)
	} else {
		at := api.Key{Stream: stream, Seq: k.Number(api.MaxNumber)}
		b.frames[at] = readKept(at, v)
	}
	return k.End() == api.OK && v.End() == api.OK
}

// readStream: a stream's value.
func readStream(v *octet.Reader) (s stream) {
	s.open = v.Number(1) == 1
	s.next = v.Number(api.MaxNumber + 1)
	if s.next == 0 {
		return s
	}
	s.newest = api.Stamp{Time: v.Number(api.MaxNumber), Seq: v.Number(api.MaxNumber)}
	if s.newest.Seq >= s.next {
		v.Fail(api.ErrTable)
	}
	return s
}

// readKept: a frame's value.
func readKept(at api.Key, v *octet.Reader) (k kept) {
	k.at = v.Number(lastPlace)
	k.Stream = at.Stream
	k.Stamp = api.Stamp{Time: v.Number(api.MaxNumber), Seq: at.Seq}
	k.Life = v.Number(api.MaxNumber)
	k.Data = v.Bytes(api.MaxData)
	return k
}

// fits: may a table say this of all frames, and of their streams?
func (b *Backlog) fits() bool {
	if len(b.frames) > api.MaxPending {
		return false
	}
	before := uint64(0) // which is no place
	for _, f := range b.ordered() {
		s := b.streams[f.Stream]
		if f.at == before || f.Stamp.Seq >= s.next || s.below(f.Stamp) {
			return false
		}
		before = f.at
	}
	return true
}
