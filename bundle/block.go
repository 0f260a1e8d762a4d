package bundle

import (
	"bytes"

	"halyard/api"
	"halyard/octet"
)

const (
	leastOwn  = 2   // a block's Type and Number at least: 1 is the payload's
	mostOwn   = 255 // its Type, Number and Flags at most
	mostBytes = 64  // of its Data
)

// rule: what the Data of a Type must be. A Type that has a rule stands in a bundle once at most.
type rule struct {
	kind  uint64
	takes func(data []byte) bool
}

// rules: of all Types that have one.
func rules() []rule {
	return []rule{
		{PreviousType, func(data []byte) bool { return readPrevious(data).fault == api.OK }},
		{AgeType, func(data []byte) bool { return readAge(data).fault == api.OK }},
		{HopType, func(data []byte) bool { return readHops(data).fault == api.OK }},
	}
}

// ruleOf: the rule of a Type, and whether it has one.
func ruleOf(kind uint64) (rule, bool) {
	for _, x := range rules() {
		if x.kind == kind {
			return x, true
		}
	}
	return rule{}, false
}

// previous: a block's Data, read as the endpoint that the bundle was at before.
type previous struct {
	EID
	fault api.Errno
}

// age: a block's Data, read as how old the bundle is.
type age struct {
	ticks uint64
	fault api.Errno
}

// hops: a block's Data, read as how many hops there may be, and how many there were.
type hops struct {
	limit, count uint64
	fault        api.Errno
}

func readPrevious(data []byte) (p previous) {
	r := octet.New(data)
	p.EID = readEID(r)
	p.fault = r.End()
	return p
}

func readAge(data []byte) (a age) {
	r := octet.New(data)
	a.ticks = r.Number(api.MaxNumber)
	a.fault = r.End()
	return a
}

func readHops(data []byte) (h hops) {
	r := octet.New(data)
	h.limit = r.Number(mostOwn)
	must(r, h.limit >= 1)
	h.count = r.Number(h.limit)
	h.fault = r.End()
	return h
}

// goodBlocks: are there not too many of them, and each good, with what stands ahead of it?
func goodBlocks(l []Block) bool {
	if len(l) > maxBlocks {
		return false
	}
	for i, x := range l {
		if !goodType(l[:i], x.Type) || !goodNumber(l[:i], x.Number) || !goodFlags(x.Flags) || !goodData(x.Type, x.Data) {
			return false
		}
	}
	return true
}

// goodType: may a block of that Type stand behind these?
func goodType(ahead []Block, kind uint64) bool {
	_, once := ruleOf(kind)
	return kind >= leastOwn && kind <= mostOwn && !(once && place(ahead, kind) >= 0)
}

// goodNumber: may a block with that Number stand behind these?
func goodNumber(ahead []Block, number uint64) bool {
	for _, x := range ahead {
		if x.Number == number {
			return false
		}
	}
	return number >= leastOwn && number <= mostOwn
}

func goodFlags(flags uint64) bool { return flags <= mostOwn }

// goodData: may a block of that Type have this Data?
func goodData(kind uint64, data []byte) bool {
	if len(data) > mostBytes {
		return false
	}
	x, ok := ruleOf(kind)
	return !ok || x.takes(data)
}

// readBlock: the block at the Reader's place, behind these.
func readBlock(r *octet.Reader, ahead []Block) (x Block) {
	x.Type = r.Number(api.MaxNumber)
	must(r, goodType(ahead, x.Type))
	x.Number = r.Number(api.MaxNumber)
	must(r, goodNumber(ahead, x.Number))
	x.Flags = r.Number(api.MaxNumber)
	must(r, goodFlags(x.Flags))
	x.Data = r.Bytes(mostBytes)
	must(r, goodData(x.Type, x.Data))
	return x
}

// clone: the block in memory of its own.
func (x Block) clone() Block {
	x.Data = bytes.Clone(x.Data)
	return x
}
