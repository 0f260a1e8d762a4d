package seglog

import (
	"bytes"

	"halyard/api"
	"halyard/disk"
)

// slots: the sectors for heads, ahead of the ring.
const slots = 2

// place: where a log lies: on which disk, from which of its sectors on, and how many they are.
type place struct {
	disk     *disk.Disk
	at, size int
}

// placeOn: the place, if the disk has it, and power.
func placeOn(d *disk.Disk, first, size int) (place, api.Errno) {
	// A disk that nobody made has no sectors, so it has no place either.
	if size <= slots || first < 0 || size > d.Sectors()-first {
		return place{}, api.ErrArg
	}
	if d.Down() {
		return place{}, api.ErrPower
	}
	return place{d, first, size}, api.OK
}

// ring: how many sectors there are for pieces.
func (p place) ring() uint64 { return uint64(p.size - slots) }

// sector: that of the piece with the number n.
func (p place) sector(n uint64) int { return p.at + slots + int(n%p.ring()) }

// counting: the head that counts; its generation is 0, if there is none.
func (p place) counting() head {
	var newest head
	for slot := range slots {
		b, e := p.disk.Read(p.at + slot)
		if e != api.OK {
			continue
		}
		h, good := headOf(b, p.size)
		if good && h.slot() == slot && h.generation > newest.generation {
			newest = h
		}
	}
	return newest
}

// writeHead: the head, and with it all that was written ahead of it, is durable.
func (p place) writeHead(h head) api.Errno {
	if e := p.disk.Write(p.at+h.slot(), h.text(p.size)); e != api.OK {
		return e
	}
	return p.disk.Flush()
}

// writePiece: into its sector.
func (p place) writePiece(x piece) api.Errno {
	return p.disk.Write(p.sector(x.number), x.text())
}

// readPiece: the piece with the number n. (None has one above api.MaxNumber: a text has no room for it.)
func (p place) readPiece(n uint64) (piece, api.Errno) {
	b, e := p.disk.Read(p.sector(n))
	if e != api.OK {
		return piece{}, e
	}
	x, good := pieceOf(b)
	if !good || x.number != n {
		return piece{}, api.ErrLog
	}
	return x, api.OK
}

// readFront: the first piece of the record at n, if its epoch is from least to greatest.
func (p place) readFront(n, least, greatest uint64) (piece, api.Errno) {
	x, e := p.readPiece(n)
	if e != api.OK {
		return piece{}, e
	}
	if x.index != 0 || x.epoch < least || x.epoch > greatest {
		return piece{}, api.ErrLog
	}
	return x, api.OK
}

// readPart: the piece that has this label.
func (p place) readPart(l label) (piece, api.Errno) {
	x, e := p.readPiece(l.number)
	if e != api.OK {
		return piece{}, e
	}
	if x.label != l {
		return piece{}, api.ErrLog
	}
	return x, api.OK
}

// readRecord: the bytes of the record at n, if its epoch is at most that.
func (p place) readRecord(n, greatest uint64) ([]byte, api.Errno) {
	front, e := p.readFront(n, 0, greatest)
	if e != api.OK {
		return nil, e
	}
	rec := bytes.Clone(front.data)
	for i := 1; i < Need(front.length); i++ {
		x, e := p.readPart(front.part(i))
		if e != api.OK {
			return nil, e
		}
		rec = append(rec, x.data...)
	}
	return rec, api.OK
}

// readStarts: where the records of a head begin, and where the last one ends.
func (p place) readStarts(h head) (starts []start, next uint64) {
	next = h.first
	least := h.least
records:
	for {
		front, e := p.readFront(next, least, h.epoch)
		if e != api.OK {
			break
		}
		pieces := Need(front.length)
		for i := 1; i < pieces; i++ {
			if _, e := p.readPart(front.part(i)); e != api.OK {
				break records
			}
		}
		end := next + uint64(pieces)
		if end > h.first+p.ring() {
			break
		}
		starts = append(starts, start{next, front.epoch})
		next, least = end, front.epoch
	}
	return starts, next
}

// format: lays an empty log. The head that counts goes last: as long as it is there, the ring is as it was.
func (p place) format() api.Errno {
	last := 1
	if h := p.counting(); h.generation > 0 {
		last = h.slot()
	}
	for _, slot := range [...]int{1 - last, last} {
		if e := p.wipe(slot, slot+1); e != api.OK {
			return e
		}
	}
	if e := p.wipe(slots, p.size); e != api.OK {
		return e
	}
	return p.writeHead(head{generation: 1})
}

// wipe: zeros, durable ones, in the place's sectors from one up to another.
func (p place) wipe(from, to int) api.Errno {
	zeros := make([]byte, api.SectorSize)
	for i := from; i < to; i++ {
		if e := p.disk.Write(p.at+i, zeros); e != api.OK {
			return e
		}
	}
	return p.disk.Flush()
}
