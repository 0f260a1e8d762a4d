package seglog_test

import (
	"bytes"
	"encoding/binary"
	"hash/crc32"
	"math"
	"math/rand"
	"slices"
	"testing"

	"halyard/api"
	"halyard/disk"
	"halyard/seglog"
)

// plain: a log as the chapter tells it, sentence by sentence, on a disk of its own.
type plain struct {
	d                              *disk.Disk
	first, size                    int
	generation, epoch, from, least uint64
	next                           uint64
	starts                         []plainStart
	fallen                         bool
}

type plainStart struct{ number, epoch uint64 }

func little(b []byte) (n uint64) {
	for i := len(b) - 1; i >= 0; i-- {
		n = 256*n + uint64(b[i])
	}
	return n
}

func sealHolds(b []byte) bool { return little(b[124:]) == uint64(crc32.ChecksumIEEE(b[:124])) }

func allZero(b []byte) bool { return !slices.ContainsFunc(b, func(c byte) bool { return c != 0 }) }

// plainNeed: counted.
func plainNeed(n int) uint64 {
	pieces := uint64(1)
	for n > 104 {
		n -= 104
		pieces++
	}
	return pieces
}

// plainHead: section 5.2: the head in a slot; false, if it holds none.
func plainHead(d *disk.Disk, first, size, slot int) (p plain, ok bool) {
	b, e := d.Read(first + slot)
	if e != api.OK || string(b[:4]) != "hlyH" || !allZero(b[32:124]) || !sealHolds(b) || little(b[28:32]) != uint64(size) {
		return p, false
	}
	p = plain{d: d, first: first, size: size, generation: little(b[4:10]), epoch: little(b[10:16]), from: little(b[16:22]), least: little(b[22:28])}
	return p, p.generation >= 1 && p.generation%2 == uint64(slot)
}

func plainCounting(d *disk.Disk, first, size int) (plain, bool) {
	a, hasA := plainHead(d, first, size, 0)
	b, hasB := plainHead(d, first, size, 1)
	if hasB && (!hasA || b.generation > a.generation) {
		return b, true
	}
	return a, hasA
}

// recordAt: section 5.3: the record at n, its epoch and pieces; ErrTorn or ErrLog, if it is not there.
func (p *plain) recordAt(n, least, greatest uint64) (rec []byte, epoch, pieces uint64, e api.Errno) {
	length := 0
	pieces = 1
	for i := uint64(0); i < pieces; i++ {
		b, e := p.d.Read(p.first + 2 + int((n+i)%uint64(p.size-2)))
		if e != api.OK {
			return nil, 0, 0, api.ErrTorn
		}
		if string(b[:4]) != "hlyP" || !sealHolds(b) || little(b[4:10]) != n+i || little(b[18:20]) != i {
			return nil, 0, 0, api.ErrLog
		}
		if i == 0 {
			epoch, length = little(b[10:16]), int(little(b[16:18]))
			if epoch < least || epoch > greatest || length > 8192 {
				return nil, 0, 0, api.ErrLog
			}
			pieces = plainNeed(length)
		}
		holds := min(104, length-104*int(i))
		if little(b[10:16]) != epoch || int(little(b[16:18])) != length || !allZero(b[20+holds:124]) {
			return nil, 0, 0, api.ErrLog
		}
		rec = append(rec, b[20:20+holds]...)
	}
	return rec, epoch, pieces, api.OK
}

func wrongPlace(d *disk.Disk, first, size int) bool {
	return d.Sectors() == 0 || size < 3 || first < 0 || first > d.Sectors() || size > d.Sectors() || first+size > d.Sectors()
}

func plainFormat(d *disk.Disk, first, size int) api.Errno {
	if wrongPlace(d, first, size) {
		return api.ErrArg
	}
	if d.Down() {
		return api.ErrPower
	}
	one, other := 0, 1
	if p, ok := plainCounting(d, first, size); ok && p.generation%2 == 0 {
		one, other = 1, 0
	}
	todo := []operation{wipes(first + one), flush, wipes(first + other), flush}
	for i := first + 2; i < first+size; i++ {
		todo = append(todo, wipes(i))
	}
	todo = append(todo, flush, operation{first + 1, headText(1, 0, 0, 0, size)}, flush)
	return doAll(d, todo)
}

func doAll(d *disk.Disk, todo []operation) api.Errno {
	for _, o := range todo {
		if e := o.on(d); e != api.OK {
			return e
		}
	}
	return api.OK
}

func plainOpen(d *disk.Disk, first, size int) (*plain, api.Errno) {
	if wrongPlace(d, first, size) {
		return nil, api.ErrArg
	}
	if d.Down() {
		return nil, api.ErrPower
	}
	p, ok := plainCounting(d, first, size)
	if !ok {
		return nil, api.ErrLog
	}
	if p.generation == most || p.epoch == most {
		return nil, api.ErrEnd
	}
	p.next = p.from
	least := p.least
	for {
		_, epoch, pieces, e := p.recordAt(p.next, least, p.epoch)
		if e != api.OK || p.next+pieces-1 > most || p.next+pieces-p.from > uint64(size-2) {
			break
		}
		p.starts = append(p.starts, plainStart{p.next, epoch})
		p.next += pieces
		least = epoch
	}
	if e := p.writeHead(p.epoch+1, p.from); e != api.OK {
		return nil, e
	}
	return &p, api.OK
}

func (p *plain) writeHead(epoch, from uint64) api.Errno {
	least := epoch
	for _, s := range p.starts {
		if s.number == from {
			least = s.epoch
		}
	}
	generation := p.generation + 1
	e := doAll(p.d, []operation{{p.first + int(generation%2), headText(generation, epoch, from, least, p.size)}, flush})
	if e != api.OK {
		p.fallen = true
		return e
	}
	p.generation, p.epoch, p.from, p.least = generation, epoch, from, least
	return api.OK
}

func (p *plain) powerless() bool {
	p.fallen = p.fallen || p.d.Down()
	return p.fallen
}

func (p *plain) free() int { return p.size - 2 - int(p.next-p.from) }

func (p *plain) isStart(n uint64) bool {
	return slices.ContainsFunc(p.starts, func(s plainStart) bool { return s.number == n })
}

func (p *plain) append(rec []byte) (uint64, api.Errno) {
	if len(rec) > 8192 {
		return 0, api.ErrArg
	}
	pieces := plainNeed(len(rec))
	switch {
	case p.powerless():
		return 0, api.ErrPower
	case p.next+pieces-1 > most:
		return 0, api.ErrEnd
	case int(pieces) > p.free():
		return 0, api.ErrFull
	}
	var todo []operation
	for i := uint64(0); i < pieces; i++ {
		data := rec[104*i:]
		data = data[:min(104, len(data))]
		todo = append(todo, operation{p.first + 2 + int((p.next+i)%uint64(p.size-2)), pieceText(p.next+i, p.epoch, len(rec), int(i), string(data))})
	}
	if e := doAll(p.d, todo); e != api.OK {
		p.fallen = true
		return 0, e
	}
	n := p.next
	p.starts = append(p.starts, plainStart{n, p.epoch})
	p.next += pieces
	return n, api.OK
}

func (p *plain) flush() api.Errno {
	if p.powerless() {
		return api.ErrPower
	}
	e := p.d.Flush()
	p.fallen = e == api.ErrPower
	return e
}

func (p *plain) trim(n uint64) api.Errno {
	switch {
	case p.powerless():
		return api.ErrPower
	case n <= p.from:
		return api.OK
	case !p.isStart(n) && n != p.next:
		return api.ErrNone
	case p.generation == most || n > most:
		return api.ErrEnd
	}
	if e := p.writeHead(p.epoch, n); e != api.OK {
		return e
	}
	p.starts = slices.DeleteFunc(p.starts, func(s plainStart) bool { return s.number < n })
	return api.OK
}

func (p *plain) read(n uint64) ([]byte, api.Errno) {
	if p.powerless() {
		return nil, api.ErrPower
	}
	if !p.isStart(n) {
		return nil, api.ErrNone
	}
	rec, _, _, e := p.recordAt(n, 0, p.epoch)
	return rec, e
}

func (p *plain) records(n uint64) (out []pair) {
	if p.powerless() {
		return nil
	}
	for _, s := range p.starts {
		if s.number < n {
			continue
		}
		rec, e := p.read(s.number)
		if e != api.OK {
			break
		}
		out = append(out, pair{s.number, string(rec)})
	}
	return out
}

// twins: the same calls on a log and on a plain one; and on all the logs that were opened ahead of them and are still about.
type twins struct {
	t           *testing.T
	r           *rand.Rand
	d, pd       *disk.Disk
	first, size int
	logs        []*seglog.Log
	plains      []*plain
	seen        map[string]map[api.Errno]int
}

func (w *twins) same(what string, got, want api.Errno) {
	w.t.Helper()
	if got != want {
		w.t.Fatalf("%s: %d, want %d", what, got, want)
	}
	if w.seen[what] == nil {
		w.seen[what] = map[api.Errno]int{}
	}
	w.seen[what][got]++
}

func (w *twins) both(o operation) {
	e, f := o.on(w.d), o.on(w.pd)
	w.same("disk", e, f)
}

// someRecord: of a length at an edge, as a rule.
func (w *twins) someRecord() []byte {
	edges := []int{0, 1, 1, 2, 103, 104, 105, 208, 209, 104 * (w.size - 2), 104*(w.size-2) + 1, 8192, 8193}
	n := edges[w.r.Intn(len(edges))]
	if w.r.Intn(3) == 0 {
		n = w.r.Intn(300)
	}
	b := make([]byte, n)
	w.r.Read(b)
	return b
}

// someNumber: mostly a start, or next, or near one.
func (w *twins) someNumber(p *plain) uint64 {
	switch k := w.r.Intn(12); {
	case k < 6 && len(p.starts) > 0:
		return p.starts[w.r.Intn(len(p.starts))].number
	case k < 8:
		return p.next
	case k < 9:
		return p.from
	case k < 11:
		return p.from + uint64(w.r.Intn(w.size)) - 1
	}
	odd := []uint64{0, 1, most - 1, most, most + 1, math.MaxUint64}
	return odd[w.r.Intn(len(odd))]
}

// call: one of a log's calls.
func (w *twins) call(l *seglog.Log, p *plain) {
	n := w.someNumber(p)
	switch k := w.r.Intn(20); {
	case k < 8:
		rec := w.someRecord()
		a, e := l.Append(rec)
		b, f := p.append(rec)
		w.same("Append", e, f)
		if a != b {
			w.t.Fatalf("P5.4: Append = %d, want %d", a, b)
		}
	case k < 10:
		w.same("Flush", l.Flush(), p.flush())
	case k < 14:
		w.same("Trim", l.Trim(n), p.trim(n))
	case k < 17:
		a, e := l.Read(n)
		b, f := p.read(n)
		w.same("Read", e, f)
		if !bytes.Equal(a, b) {
			w.t.Fatalf("P5.7: Read(%d) is another record", n)
		}
	default:
		if !slices.Equal(listed(l, n), p.records(n)) {
			w.t.Fatalf("P5.7: Records(%d) are others", n)
		}
	}
}

// spoil: somebody else writes to a sector of the log: a bit is turned, a sector is copied, a text is forged.
func (w *twins) spoil() {
	i := w.first + w.r.Intn(w.size)
	b, e := w.d.Read(w.first + w.r.Intn(w.size))
	if e != api.OK {
		return
	}
	edges := []uint64{0, 1, 2, 3, most - 2, most - 1, most}
	some := func() uint64 { return edges[w.r.Intn(len(edges))] }
	switch w.r.Intn(4) {
	case 0:
		b[w.r.Intn(128)] ^= 1 << w.r.Intn(8)
	case 1:
		b = binary.LittleEndian.AppendUint32(b[:124], crc32.ChecksumIEEE(b[:124]))
	case 2:
		i = w.first + w.r.Intn(2)
		b = headText(some(), some(), some(), some(), w.size)
	case 3:
		b = pieceText(some(), some(), w.r.Intn(3)*104, w.r.Intn(3), "")
	}
	w.both(operation{i, b})
}

func (w *twins) open() {
	l, e := seglog.Open(w.d, w.first, w.size)
	p, f := plainOpen(w.pd, w.first, w.size)
	w.same("Open", e, f)
	if (l == nil) != (e != api.OK) {
		w.t.Fatalf("P5.3: Open = %v, %d", l, e)
	}
	if l != nil {
		w.logs, w.plains = append(w.logs, l), append(w.plains, p)
	}
	if len(w.logs) > 3 {
		w.logs, w.plains = w.logs[1:], w.plains[1:]
	}
}

func (w *twins) crash() {
	var choices []int
	for range w.r.Intn(6) {
		choices = append(choices, w.r.Intn(4)-w.r.Intn(20)/19)
	}
	w.d.Crash(choices)
	w.pd.Crash(choices)
}

func (w *twins) step(foreign bool) {
	switch k := w.r.Intn(40); {
	case k < 1:
		w.same("Format", seglog.Format(w.d, w.first, w.size), plainFormat(w.pd, w.first, w.size))
	case k < 4:
		w.crash()
	case k < 8:
		w.open()
	case k < 10:
		n := w.r.Intn(12) - 1
		w.d.Cut(n)
		w.pd.Cut(n)
	case k < 12 && foreign:
		w.spoil()
	case len(w.logs) > 0:
		i := len(w.logs) - 1
		if w.r.Intn(5) == 0 {
			i = w.r.Intn(len(w.logs))
		}
		w.call(w.logs[i], w.plains[i])
	}
}

func (w *twins) like() {
	w.t.Helper()
	alike(w.t, "P5.2 to P5.6: what is on the disk", w.d, w.pd)
	for i, l := range w.logs {
		p := w.plains[i]
		if l.Epoch() != p.epoch || l.First() != p.from || l.Next() != p.next || l.Free() != p.free() {
			w.t.Fatalf("P5.8: Epoch %d, First %d, Next %d, Free %d, want %d, %d, %d, %d",
				l.Epoch(), l.First(), l.Next(), l.Free(), p.epoch, p.from, p.next, p.free())
		}
	}
}

func TestAgainstPlain(t *testing.T) {
	r := rand.New(rand.NewSource(5))
	seen := map[string]map[api.Errno]int{}
	for round := range 700 {
		sectors := 3 + r.Intn(9)
		first := r.Intn(sectors - 2)
		w := &twins{t: t, r: r, d: newDisk(t, sectors), pd: newDisk(t, sectors), first: first, size: 3 + r.Intn(sectors-first-2), seen: seen}
		w.same("Format", seglog.Format(w.d, w.first, w.size), plainFormat(w.pd, w.first, w.size))
		w.open()
		for range 120 {
			w.step(round%2 == 0)
			w.like()
		}
	}
	// Each answer must have come up, or the comparing was of little worth.
	for what, answers := range map[string][]api.Errno{
		"Format": {api.OK, api.ErrPower},
		"Open":   {api.OK, api.ErrPower, api.ErrLog, api.ErrEnd},
		"Append": {api.OK, api.ErrArg, api.ErrPower, api.ErrEnd, api.ErrFull},
		"Flush":  {api.OK, api.ErrPower},
		"Trim":   {api.OK, api.ErrPower, api.ErrNone, api.ErrEnd},
		"Read":   {api.OK, api.ErrPower, api.ErrNone, api.ErrTorn, api.ErrLog},
	} {
		for _, e := range answers {
			if seen[what][e] < 3 {
				t.Errorf("%s answered %d only %d times", what, e, seen[what][e])
			}
		}
	}
}
