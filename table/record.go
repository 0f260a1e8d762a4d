package table

import (
	"slices"
	"sort"

	"halyard/api"
	"halyard/octet"
	"halyard/seglog"
)

// The first byte of a record tells what it is of.
const (
	batchMark = 1
	partMark  = 2
)

// The first byte of a change in a batch's record.
const (
	goneMark = 0
	putMark  = 1
)

// partSize: bytes of a text in one part. With what stands ahead of them they have room in a record.
const partSize = 78 * seglog.Payload

// good: may the change be done?
func (c Change) good() bool {
	return len(c.Key) >= 1 && len(c.Key) <= api.MaxKey && (c.Gone || len(c.Value) <= api.MaxValue)
}

// goodBatch: not too many changes, all of them good.
func goodBatch(batch []Change) bool {
	return len(batch) <= api.MaxBatch && !slices.ContainsFunc(batch, func(c Change) bool { return !c.good() })
}

// batchRecord: the record of a batch.
func batchRecord(batch []Change) []byte {
	b := octet.AppendNumber([]byte{batchMark}, uint64(len(batch)))
	for _, c := range batch {
		if c.Gone {
			b = append(b, goneMark)
			b = append(b, octet.AppendBytes(nil, c.Key)...)
		} else {
			b = append(b, putMark)
			b = append(b, pairBytes(string(c.Key), c.Value)...)
		}
	}
	return b
}

// countParts: of a text of so many bytes.
func countParts(bytes int) int { return max(1, (bytes+partSize-1)/partSize) }

// partFront: what stands ahead of a part's bytes in its record.
func partFront(i, k int) []byte {
	return octet.AppendNumber(octet.AppendNumber([]byte{partMark}, uint64(i)), uint64(k))
}

// partRecords: those of all parts of a text.
func partRecords(text []byte) [][]byte {
	k := countParts(len(text))
	var out [][]byte
	for i := range k {
		from := i * partSize
		to := min(from+partSize, len(text))
		out = append(out, append(partFront(i, k), text[from:to]...))
	}
	return out
}

// cost: pieces of a checkpoint of a text of so many bytes.
func cost(bytes int) int {
	k := countParts(bytes)
	pieces := 0
	for i := range k {
		part := min(partSize, bytes-i*partSize)
		pieces += seglog.Need(len(partFront(i, k)) + part)
	}
	return pieces
}

// capacity: live bytes at most of a table of so many sectors: a checkpoint, the greatest batch and the checkpoint behind it have room together.
func capacity(size int) int {
	ring := size - 2
	spare := ring - seglog.Need(api.MaxRecord)
	return sort.Search(ring*seglog.Payload, func(bytes int) bool { return 2*cost(bytes+1) > spare })
}
