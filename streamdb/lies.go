package streamdb

import (
	"halyard/api"
	"halyard/octet"
	"halyard/table"
)

// The first bytes of a key: the database's own one, and that of its kind; and how many bytes it has.
const (
	ownMark    = 0x64
	streamMark = 0x73
	frameMark  = 0x66

	numberSize    = 6 // a number up to MaxNumber, the highest byte first: so that keys are ordered as stamps are
	streamKeySize = 3
	frameKeySize  = streamKeySize + 2*numberSize
)

func streamKey(stream int) []byte { return []byte{ownMark, streamMark, byte(stream)} }

func frameKey(stream int, s api.Stamp) []byte {
	key := []byte{ownMark, frameMark, byte(stream)}
	return appendFixed(appendFixed(key, s.Time), s.Seq)
}

// appendFixed: a number in six bytes, the highest first.
func appendFixed(b []byte, n uint64) []byte {
	for i := numberSize - 1; i >= 0; i-- {
		b = append(b, byte(n>>(8*i)))
	}
	return b
}

// fixed: the number that those bytes are.
func fixed(b []byte) (n uint64) {
	for _, x := range b {
		n = n<<8 | uint64(x)
	}
	return n
}

// putFrame: the change by which a frame is there; dropFrame: by which it is there no more.
func putFrame(f api.Frame) table.Change {
	value := octet.AppendBytes(octet.AppendNumber(nil, f.Life), f.Data)
	return table.Change{Key: frameKey(f.Stream, f.Stamp), Value: value}
}

func dropFrame(f api.Frame) table.Change {
	return table.Change{Key: frameKey(f.Stream, f.Stamp), Gone: true}
}

// change: by which the table says this of a stream; where there is nothing to say it has no such key.
func (k known) change(stream int) table.Change {
	if k == (known{}) {
		return table.Change{Key: streamKey(stream), Gone: true}
	}
	value := appendTriple(nil, k.heard, uint64(k.quota.Count), uint64(k.quota.Bytes))
	value = appendTriple(value, k.high.is, k.high.stamp.Time, k.high.stamp.Seq)
	value = appendTriple(value, k.floor.is, k.floor.stamp.Time, k.floor.stamp.Seq)
	return table.Change{Key: streamKey(stream), Value: value}
}

// appendTriple: whether there is something, and its two numbers, which are zeros where there is nothing.
func appendTriple(b []byte, is bool, one, other uint64) []byte {
	there := uint64(0)
	if is {
		there = 1
	}
	return octet.AppendNumber(octet.AppendNumber(octet.AppendNumber(b, there), one), other)
}

// readTriple: as appendTriple wrote it.
func readTriple(r *octet.Reader) (is bool, one, other uint64) {
	is, one, other = r.Number(1) == 1, r.Number(api.MaxNumber), r.Number(api.MaxNumber)
	if !is && (one > 0 || other > 0) {
		r.Fail(api.ErrTable)
	}
	return is, one, other
}

// read: one of the table's pairs under the own mark; has it one of the forms?
func (d *DB) read(key, value []byte) bool {
	if len(key) < streamKeySize {
		return false
	}
	s := d.stream(int(key[2]))
	switch {
	case s == nil:
		return false
	case key[1] == streamMark && len(key) == streamKeySize:
		return s.readKnown(value)
	case key[1] == frameMark && len(key) == frameKeySize:
		return s.readFrame(key, value)
	}
	return false
}

// readKnown: a stream's value.
func (s *stream) readKnown(value []byte) bool {
	r := octet.New(value)
	heard, count, bytes := readTriple(r)
	s.heard, s.quota = heard, api.Quota{Count: int(count), Bytes: int(bytes)}
	s.high = readMark(r)
	s.floor = readMark(r)
	return r.End() == api.OK && s.known != known{}
}

func readMark(r *octet.Reader) mark {
	is, time, seq := readTriple(r)
	return mark{is, api.Stamp{Time: time, Seq: seq}}
}

// readFrame: a frame's key and value.
func (s *stream) readFrame(key, value []byte) bool {
	rest := key[streamKeySize:]
	stamp := api.Stamp{Time: fixed(rest[:numberSize]), Seq: fixed(rest[numberSize:])}
	r := octet.New(value)
	f := api.Frame{Stream: int(key[2]), Stamp: stamp, Life: r.Number(api.MaxNumber), Data: r.Bytes(api.MaxData)}
	s.frames.Put(stamp, f)
	return r.End() == api.OK
}
