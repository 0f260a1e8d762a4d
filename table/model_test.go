package table_test

import (
	"bytes"
	"maps"
	"math/rand"
	"slices"
	"strings"
	"testing"

	"halyard/api"
	"halyard/disk"
	"halyard/seglog"
	"halyard/table"
)

// plain: a table as the chapter tells it, sentence by sentence, over a log of its own.
type plain struct {
	d         *disk.Disk
	l         *seglog.Log
	pairs     map[string]string
	capacity  int
	unflushed int
	fallen    api.Errno
}

// plainNumber: the bytes of a number below 2^14.
func plainNumber(n int) string {
	if n < 128 {
		return string([]byte{byte(n)})
	}
	return string([]byte{byte(n/128) + 128, byte(n % 128)})
}

func plainList(x string) string { return plainNumber(len(x)) + x }

func plainText(pairs map[string]string) string {
	var s strings.Builder
	for _, k := range slices.Sorted(maps.Keys(pairs)) {
		s.WriteString(plainList(k) + plainList(pairs[k]))
	}
	return s.String()
}

func plainBatch(batch []table.Change) string {
	s := "\x01" + plainNumber(len(batch))
	for _, c := range batch {
		if c.Gone {
			s += "\x00" + plainList(string(c.Key))
		} else {
			s += "\x01" + plainList(string(c.Key)) + plainList(string(c.Value))
		}
	}
	return s
}

// plainParts: section 6.2: the records of a text's parts.
func plainParts(text string) (out []string) {
	var parts []string
	for len(text) > 8112 {
		parts = append(parts, text[:8112])
		text = text[8112:]
	}
	parts = append(parts, text)
	for i, p := range parts {
		out = append(out, "\x02"+plainNumber(i)+plainNumber(len(parts))+p)
	}
	return out
}

// plainCost: C: the parts ahead of the last one, and the last one.
func plainCost(bytes int) (pieces int) {
	k := 1
	for rest := bytes; rest > 8112; rest -= 8112 {
		k++
	}
	for i := range k {
		front := 1 + len(plainNumber(i)) + len(plainNumber(k))
		pieces += max(1, (front+min(8112, bytes-8112*i)+103)/104)
	}
	return pieces
}

// plainCapacity: the greatest L for which 2 C(L) + 79 is at most R, looked for one by one; whole parts are gone over at once, as long as there is more room than one more takes.
func plainCapacity(size int) int {
	l := 0
	for 2*(plainCost(l)+2*79)+79 <= size-2 {
		l += 8112
	}
	for 2*plainCost(l+1)+79 <= size-2 {
		l++
	}
	return l
}

func (p *plain) live() int { return len(plainText(p.pairs)) }

func plainFormat(d *disk.Disk, first, size int) api.Errno {
	if size < 83 {
		return api.ErrArg
	}
	if e := seglog.Format(d, first, size); e != api.OK {
		return e
	}
	l, e := seglog.Open(d, first, size)
	if e != api.OK {
		return e
	}
	if _, e := l.Append([]byte{2, 0, 1}); e != api.OK {
		return e
	}
	return l.Flush()
}

// cutList: a list at the front of s, of least to most bytes; false, if there is none.
func cutList(s string, least, most int) (x, rest string, ok bool) {
	if len(s) == 0 || s[0] == 128 {
		return "", "", false
	}
	n, front := int(s[0]), 1
	if s[0] > 128 && len(s) > 1 && s[1] < 128 {
		n, front = 128*(n-128)+int(s[1]), 2
	} else if s[0] > 128 {
		return "", "", false
	}
	if n < least || n > most || len(s) < front+n {
		return "", "", false
	}
	return s[front : front+n], s[front+n:], true
}

// plainPairs: those that a text is; false, if it is none.
func plainPairs(text string) (map[string]string, bool) {
	pairs := map[string]string{}
	last := ""
	for text != "" {
		k, rest, ok := cutList(text, 1, 64)
		v, rest, good := cutList(rest, 0, 1024)
		if !ok || !good || k <= last {
			return nil, false
		}
		pairs[k] = v
		text, last = rest, k
	}
	return pairs, true
}

// plainChanges: those that a record is; false, if it is none of a batch.
func plainChanges(rec string) (out []table.Change, ok bool) {
	if len(rec) < 2 || rec[0] != 1 || rec[1] < 1 || rec[1] > 80 {
		return nil, false
	}
	n, rest := int(rec[1]), rec[2:]
	for range n {
		if rest == "" || rest[0] > 1 {
			return nil, false
		}
		c := table.Change{Gone: rest[0] == 0}
		k, after, ok := cutList(rest[1:], 1, 64)
		v := ""
		if ok && !c.Gone {
			v, after, ok = cutList(after, 0, 1024)
		}
		if !ok {
			return nil, false
		}
		c.Key, c.Value = []byte(k), []byte(v)
		out, rest = append(out, c), after
	}
	return out, rest == ""
}

// firstTable: rule 1 of P6.2: the table that the first k records are, and k; 0, if they are none for any k.
func firstTable(recs []string) (map[string]string, int) {
	for k := 1; k <= len(recs); k++ {
		text, fit := "", true
		for i, rec := range recs[:k] {
			front := "\x02" + plainNumber(i) + plainNumber(k)
			fit = fit && strings.HasPrefix(rec, front)
			text += strings.TrimPrefix(rec, front)
		}
		pairs, good := plainPairs(text)
		if fit && good && slices.Equal(plainParts(text), recs[:k]) {
			return pairs, k
		}
	}
	return nil, 0
}

func plainOpen(d *disk.Disk, first, size int) (*plain, api.Errno) {
	if size < 83 {
		return nil, api.ErrArg
	}
	l, e := seglog.Open(d, first, size)
	if e != api.OK {
		return nil, e
	}
	var recs []string
	var numbers []uint64
	for n, rec := range l.Records(0) {
		recs, numbers = append(recs, string(rec)), append(numbers, n)
	}
	p := &plain{d: d, l: l, capacity: plainCapacity(size)}
	k := 0
	p.pairs, k = firstTable(recs)
	if k == 0 || p.live() > p.capacity {
		return nil, api.ErrTable
	}
	for ; k < len(recs); k++ {
		batch, ok := plainChanges(recs[k])
		if !ok {
			break
		}
		p.do(batch)
		if p.live() > p.capacity {
			return nil, api.ErrTable
		}
	}
	if k == len(recs) {
		return p, api.OK
	}
	parts, there := plainParts(plainText(p.pairs)), recs[k:]
	if len(there) > len(parts) || !slices.Equal(there, parts[:len(there)]) {
		return nil, api.ErrTable
	}
	if e := p.appendFlushTrim(parts[len(there):], numbers[k]); e != api.OK {
		return nil, e
	}
	return p, api.OK
}

func (p *plain) appendFlushTrim(parts []string, to uint64) api.Errno {
	for _, rec := range parts {
		if _, e := p.l.Append([]byte(rec)); e != api.OK {
			return e
		}
	}
	if e := p.l.Flush(); e != api.OK {
		return e
	}
	p.unflushed = 0
	return p.l.Trim(to)
}

func (p *plain) do(batch []table.Change) { p.pairs = behind(p.pairs, batch) }

// behind: the pairs behind a batch.
func behind(pairs map[string]string, batch []table.Change) map[string]string {
	pairs = maps.Clone(pairs)
	for _, c := range batch {
		if c.Gone {
			delete(pairs, string(c.Key))
		} else {
			pairs[string(c.Key)] = string(c.Value)
		}
	}
	return pairs
}

func wrong(batch []table.Change) bool {
	return len(batch) > 80 || slices.ContainsFunc(batch, func(c table.Change) bool {
		return len(c.Key) == 0 || len(c.Key) > 64 || !c.Gone && len(c.Value) > 1024
	})
}

func (p *plain) commit(batch []table.Change) api.Errno {
	if wrong(batch) {
		return api.ErrArg
	}
	if p.fallen == api.OK && p.d.Down() {
		p.fallen = api.ErrPower
	}
	if p.fallen != api.OK {
		return p.fallen
	}
	if len(batch) == 0 {
		return api.OK
	}
	rec := plainBatch(batch)
	if len(rec) > 8192 {
		return api.ErrSize
	}
	live := len(plainText(behind(p.pairs, batch)))
	if live > p.capacity {
		return api.ErrFull
	}
	if (len(rec)+103)/104+plainCost(live) > p.l.Free() {
		p.fallen = p.appendFlushTrim(plainParts(plainText(p.pairs)), p.l.Next())
	}
	if p.fallen == api.OK {
		_, p.fallen = p.l.Append([]byte(rec))
	}
	if p.fallen != api.OK {
		return p.fallen
	}
	p.do(batch)
	p.unflushed++
	return api.OK
}

func (p *plain) flush() api.Errno {
	if p.fallen != api.OK {
		return p.fallen
	}
	if e := p.l.Flush(); e != api.OK {
		p.fallen = e
		return e
	}
	p.unflushed = 0
	return api.OK
}

// alike: two disks that nothing tells apart but the versions of a dirty sector ahead of its last.
func alike(t *testing.T, what string, d, other *disk.Disk) {
	t.Helper()
	a, b := d.Dirty()
	x, y := other.Dirty()
	if !slices.Equal(a, x) || !slices.Equal(b, y) {
		t.Fatalf("%s: dirty are %v %v, want %v %v", what, a, b, x, y)
	}
	if d.Down() != other.Down() || !bytes.Equal(d.Image(), other.Image()) {
		t.Fatalf("%s: the disk is another one (Down %v, want %v)", what, d.Down(), other.Down())
	}
	for _, i := range a {
		a, e := d.Read(i)
		b, f := other.Read(i)
		if e != f || !bytes.Equal(a, b) {
			t.Fatalf("%s: sector %d: %x, %d, want %x, %d", what, i, a, e, b, f)
		}
	}
}

// twins: the same calls on a table and on a plain one; and on those that were opened ahead of them and are still about.
type twins struct {
	t           *testing.T
	r           *rand.Rand
	d, pd       *disk.Disk
	first, size int
	tables      []*table.Table
	plains      []*plain
	seen        map[string]map[api.Errno]int
}

func (w *twins) same(what string, got, want api.Errno) {
	w.t.Helper()
	if got != want {
		w.t.Fatalf("%s: %d, want %d", what, got, want)
	}
	if w.seen[what] == nil {
		w.seen[what] = map[api.Errno]int{}
	}
	w.seen[what][got]++
}

func (w *twins) someKey() []byte {
	keys := []string{"a", "b", "ba", "c", "\x00", "\xff\xff", letters(64), letters(63)}
	if w.r.Intn(40) == 0 {
		return []byte(letters(w.r.Intn(2) * 65))
	}
	if w.r.Intn(3) == 0 {
		return []byte{byte(w.r.Intn(30)), 'k'}
	}
	return []byte(keys[w.r.Intn(len(keys))])
}

func (w *twins) someValue() []byte {
	edges := []int{0, 1, 127, 128, 900, 1000, 1024}
	n := edges[w.r.Intn(len(edges))]
	if k := w.r.Intn(30); k == 0 {
		n = 1025
	} else if k < 16 {
		n = w.r.Intn(100)
	}
	b := make([]byte, n)
	w.r.Read(b)
	return b
}

func (w *twins) someBatch() (out []table.Change) {
	n := 1 + w.r.Intn(3)
	switch w.r.Intn(12) {
	case 0:
		n = w.r.Intn(20)
	case 1:
		n = 79 + w.r.Intn(3)
	}
	for range n {
		out = append(out, table.Change{Key: w.someKey(), Value: w.someValue(), Gone: w.r.Intn(4) == 0})
	}
	return out
}

func (w *twins) call(x *table.Table, p *plain) {
	switch k := w.r.Intn(20); {
	case k < 13:
		batch := w.someBatch()
		w.same("Commit", x.Commit(batch...), p.commit(batch))
	case k < 16:
		w.same("Flush", x.Flush(), p.flush())
	case k < 18:
		key := w.someKey()
		v, ok := x.Get(key)
		want, there := p.pairs[string(key)]
		if string(v) != want || ok != there {
			w.t.Fatalf("P6.5: Get(%q) = %q, %v, want %q, %v", key, v, ok, want, there)
		}
	default:
		from, below := string(w.someKey()), string(w.someKey())
		var want []string
		for _, k := range slices.Sorted(maps.Keys(p.pairs)) {
			if k >= from && (below == "" || k < below) {
				want = append(want, k+"="+p.pairs[k])
			}
		}
		if got := walk(x, from, below); !slices.Equal(got, want) {
			w.t.Fatalf("P6.5: Walk(%q, %q) = %q, want %q", from, below, got, want)
		}
	}
}

// foreign: somebody else appends a record to the log, or lays it to its end.
func (w *twins) foreign() {
	text := ""
	if len(w.plains) > 0 {
		text = plainText(w.plains[len(w.plains)-1].pairs)
	}
	parts := plainParts(text)
	batch := plainBatch([]table.Change{put("f", letters(w.r.Intn(150)))})
	kinds := []string{"", "\x01", "\x02", "\x01\x00", "\x03\x01\x00\x01a", parts[0], parts[len(parts)-1], parts[0] + "\x00", batch, batch, batch, batch[:len(batch)-1], batch + "\x00",
		plainBatch([]table.Change{put("g", letters(1000)), put("h", letters(1000)), put("i", letters(1000))})}
	rec := kinds[w.r.Intn(len(kinds))]
	for _, d := range []*disk.Disk{w.d, w.pd} {
		if l, e := seglog.Open(d, w.first, w.size); e == api.OK {
			l.Append([]byte(rec))
		}
	}
}

// toTheEnd: the heads' generations, or the pieces' numbers, are near their end from now on; the log is empty but for an empty table.
func (w *twins) toTheEnd() {
	near := uint64(w.r.Intn(6))
	first := uint64(api.MaxNumber) - uint64(w.r.Intn(300))
	if w.r.Intn(2) == 0 {
		near, first = 1<<40, 0
	}
	for _, d := range []*disk.Disk{w.d, w.pd} {
		for i := range uint64(2) {
			g := api.MaxNumber - near - i - 4
			d.Write(w.first+int(g%2), headText(g, 5, first, 5, w.size))
		}
		if l, e := seglog.Open(d, w.first, w.size); e == api.OK {
			l.Append([]byte{2, 0, 1})
			l.Flush()
		}
	}
}

func (w *twins) open() {
	x, e := table.Open(w.d, w.first, w.size)
	p, f := plainOpen(w.pd, w.first, w.size)
	w.same("Open", e, f)
	if (x == nil) != (e != api.OK) {
		w.t.Fatalf("P6.2: Open = %v, %d", x, e)
	}
	if x != nil {
		w.tables, w.plains = append(w.tables, x), append(w.plains, p)
	}
	if len(w.tables) > 2 {
		w.tables, w.plains = w.tables[1:], w.plains[1:]
	}
}

func (w *twins) crash() {
	var choices []int
	for range w.r.Intn(100) {
		choices = append(choices, min(1, w.r.Intn(20))*(1-w.r.Intn(60)/59*2))
	}
	w.d.Crash(choices)
	w.pd.Crash(choices)
}

func (w *twins) step(odd bool) {
	switch k := w.r.Intn(60); {
	case k < 1 && odd:
		w.same("Format", table.Format(w.d, w.first, w.size), plainFormat(w.pd, w.first, w.size))
	case k < 3:
		w.crash()
		w.open()
	case k < 5:
		w.open()
	case k < 6:
		n := w.r.Intn(60) - 1
		w.d.Cut(n)
		w.pd.Cut(n)
	case k < 8 && odd:
		w.foreign()
	case k < 9 && odd:
		w.toTheEnd()
	case len(w.tables) > 0:
		i := len(w.tables) - 1
		if odd && w.r.Intn(9) == 0 {
			i = w.r.Intn(len(w.tables))
		}
		w.call(w.tables[i], w.plains[i])
	}
}

func (w *twins) like() {
	w.t.Helper()
	alike(w.t, "P6.1 to P6.4: what is on the disk", w.d, w.pd)
	for i, x := range w.tables {
		p := w.plains[i]
		got := []int{x.Len(), x.Live(), x.Room(), x.Unflushed(), int(x.Epoch())}
		if want := []int{len(p.pairs), p.live(), p.capacity - p.live(), p.unflushed, int(p.l.Epoch())}; !slices.Equal(got, want) {
			w.t.Fatalf("P6.6: Len, Live, Room, Unflushed, Epoch are %v, want %v", got, want)
		}
	}
}

func TestAgainstPlain(t *testing.T) {
	r := rand.New(rand.NewSource(6))
	seen := map[string]map[api.Errno]int{}
	for round := range 120 {
		size := []int{83, 86, 100, 110, 260, 420}[r.Intn(6)]
		sectors := size + r.Intn(3)
		w := &twins{t: t, r: r, d: newDisk(t, sectors), pd: newDisk(t, sectors), first: r.Intn(sectors - size + 1), size: size, seen: seen}
		w.same("Format", table.Format(w.d, w.first, w.size), plainFormat(w.pd, w.first, w.size))
		w.open()
		for range 300 {
			w.step(round%2 == 0)
			w.like()
		}
	}
	// Each answer must have come up, or the comparing was of little worth.
	for what, answers := range map[string][]api.Errno{
		"Format": {api.OK, api.ErrPower},
		"Open":   {api.OK, api.ErrPower, api.ErrLog, api.ErrEnd, api.ErrTable},
		"Commit": {api.OK, api.ErrArg, api.ErrPower, api.ErrEnd, api.ErrFull, api.ErrSize},
		"Flush":  {api.OK, api.ErrPower, api.ErrEnd},
	} {
		for _, e := range answers {
			if seen[what][e] < 3 {
				t.Errorf("%s answered %d only %d times", what, e, seen[what][e])
			}
		}
	}
	t.Log(seen)
}
