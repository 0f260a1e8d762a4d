package table

import (
	"bytes"
	"slices"

	"halyard/api"
	"halyard/octet"
	"halyard/seglog"
)

// How far a log was gone through.
const (
	atFirst = iota // not all parts of the checkpoint at its beginning were there yet
	atBatches
	atEnd // parts of the checkpoint at its end have come
)

// history: what the records of a log tell.
type history struct {
	pairs    pairs
	capacity int
	state    int
	first    [][]byte // atFirst: the records so far
	begun    uint64   // atEnd: the number of the checkpoint's part 0
	missing  [][]byte // atEnd: the records of its parts that have not come yet
}

// none: what goes up from a record that is none that may stand there.
type none struct{}

// must: leaves the record, unless it is as it must be.
func must(good bool) {
	if !good {
		panic(none{})
	}
}

// goThrough: what the records of a log tell of a table of that capacity; api.ErrTable, if there is none.
func goThrough(l *seglog.Log, capacity int) (h *history, e api.Errno) {
	defer func() {
		switch fault := recover().(type) {
		case nil:
		case none:
			h, e = nil, api.ErrTable
		default:
			panic(fault)
		}
	}()
	h = &history{pairs: newPairs(), capacity: capacity}
	for n, rec := range l.Records(l.First()) {
		h.take(n, rec)
	}
	must(h.state != atFirst)
	return h, api.OK
}

// take: the next record, with its number.
func (h *history) take(n uint64, rec []byte) {
	switch {
	case h.state == atFirst:
		h.takeFirst(rec)
	case h.state == atBatches && bytes.HasPrefix(rec, []byte{batchMark}):
		h.pairs.do(readBatch(rec))
		must(h.pairs.live <= h.capacity)
	case h.state == atBatches:
		h.state, h.begun, h.missing = atEnd, n, partRecords(h.pairs.text())
		h.takeLast(rec)
	default:
		h.takeLast(rec)
	}
}

// takeFirst: a record of the checkpoint at the beginning. Behind the last one they are held against those that the text would have: so it is cut as it must be.
func (h *history) takeFirst(rec []byte) {
	h.first = append(h.first, rec)
	_, k := readPart(h.first[0])
	if uint64(len(h.first)) < k {
		return
	}
	var text []byte
	for _, rec := range h.first {
		part, _ := readPart(rec)
		text = append(text, part...)
	}
	must(slices.EqualFunc(h.first, partRecords(text), bytes.Equal))
	readPairs(text, &h.pairs)
	must(h.pairs.live <= h.capacity)
	h.state, h.first = atBatches, nil
}

// takeLast: a record of the checkpoint at the end.
func (h *history) takeLast(rec []byte) {
	must(len(h.missing) > 0 && bytes.Equal(rec, h.missing[0]))
	h.missing = h.missing[1:]
}

// readPart: the bytes of a part, and how many parts its record says there are.
func readPart(rec []byte) (part []byte, k uint64) {
	r := octet.New(rec)
	must(readByte(r) == partMark)
	r.Number(api.MaxNumber)
	k = r.Number(api.MaxNumber)
	part = r.Take(r.Left())
	must(r.End() == api.OK)
	return part, k
}

// readPairs: those that a text is made of.
func readPairs(text []byte, into *pairs) {
	r := octet.New(text)
	last := ""
	for r.Left() > 0 {
		key, value := string(readKey(r)), r.Bytes(api.MaxValue)
		must(r.Err() == api.OK && key > last)
		into.put(key, value)
		last = key
	}
}

// readBatch: the changes that a record is made of.
func readBatch(rec []byte) []Change {
	r := octet.New(rec)
	must(readByte(r) == batchMark)
	changes := r.Number(api.MaxBatch)
	must(changes > 0)
	var batch []Change
	for range changes {
		batch = append(batch, readChange(r))
	}
	must(r.End() == api.OK)
	return batch
}

// readChange: the one that stands next.
func readChange(r *octet.Reader) Change {
	mark := readByte(r)
	must(mark == goneMark || mark == putMark)
	c := Change{Key: readKey(r), Gone: mark == goneMark}
	if mark == putMark {
		c.Value = r.Bytes(api.MaxValue)
	}
	must(r.Err() == api.OK)
	return c
}

// readKey: a key, which is never empty.
func readKey(r *octet.Reader) []byte {
	key := r.Bytes(api.MaxKey)
	must(len(key) > 0)
	return key
}

// readByte: the next one.
func readByte(r *octet.Reader) byte {
	b := r.Take(1)
	must(len(b) == 1)
	return b[0]
}
