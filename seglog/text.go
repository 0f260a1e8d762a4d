package seglog

import (
	"bytes"

	"halyard/api"
	"halyard/octet"
)

// The first bytes of a sector's text tell what it is of.
const (
	headMark  = "hlyH"
	pieceMark = "hlyP"
)

const (
	wide     = 6  // bytes of a number up to api.MaxNumber
	sealSize = 4  // bytes of a seal
	dataAt   = 20 // where the bytes of a record begin in the text of a piece
)

// head: what a log's slots say of it. The generation is 1 or more; 0: there is no head.
type head struct {
	generation, epoch uint64
	first             uint64 // the number at which the log begins
	least             uint64 // the least epoch that the record there may have
}

// slot: heads take turns, so that the one ahead of this stays whole while this is written.
func (h head) slot() int { return int(h.generation % 2) }

// text: of a head of a log of so many sectors.
func (h head) text(size int) []byte {
	b := []byte(headMark)
	for _, n := range [...]uint64{h.generation, h.epoch, h.first, h.least} {
		b = lay(b, n, wide)
	}
	return sealed(lay(b, uint64(size), 4))
}

// headOf: the head that has this text in a log of so many sectors; false, if none has.
func headOf(b []byte, size int) (head, bool) {
	h := head{generation: low(b[4:10]), epoch: low(b[10:16]), first: low(b[16:22]), least: low(b[22:28])}
	return h, h.generation > 0 && bytes.Equal(b, h.text(size))
}

// label: which piece of which record.
type label struct {
	number, epoch uint64
	length        int // of the whole record
	index         int
}

// part: the label of the record's piece i; the label is that of its piece 0.
func (l label) part(i int) label {
	l.number += uint64(i)
	l.index = i
	return l
}

// span: where in the record the piece's bytes begin and end.
func (l label) span() (from, to int) {
	from = l.index * Payload
	return from, min(from+Payload, l.length)
}

// piece: so much of a record as a sector holds.
type piece struct {
	label
	data []byte
}

// text: of a piece.
func (p piece) text() []byte {
	b := lay([]byte(pieceMark), p.number, wide)
	b = lay(b, p.epoch, wide)
	b = lay(b, uint64(p.length), 2)
	b = lay(b, uint64(p.index), 2)
	return sealed(append(b, p.data...))
}

// pieceOf: the piece that has this text; false, if none has.
func pieceOf(b []byte) (piece, bool) {
	l := label{number: low(b[4:10]), epoch: low(b[10:16]), length: int(low(b[16:18])), index: int(low(b[18:20]))}
	if l.index >= Need(l.length) {
		return piece{}, false
	}
	from, to := l.span()
	p := piece{l, b[dataAt : dataAt+to-from]}
	return p, bytes.Equal(b, p.text())
}

// sealed: a sector's text that begins with b.
func sealed(b []byte) []byte {
	t := make([]byte, api.SectorSize-sealSize)
	copy(t, b)
	return octet.Seal(t)
}

// lay: the bytes of b, then the number in so many bytes, the lowest one first.
func lay(b []byte, n uint64, size int) []byte {
	for range size {
		b = append(b, byte(n))
		n >>= 8
	}
	return b
}

// low: the number that lay has laid so.
func low(b []byte) uint64 {
	n := uint64(0)
	for i, c := range b {
		n |= uint64(c) << (8 * i)
	}
	return n
}
