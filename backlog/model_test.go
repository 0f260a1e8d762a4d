package backlog_test

import (
	"fmt"
	"maps"
	"math/rand"
	"slices"
	"strings"
	"testing"

	"halyard/api"
	"halyard/backlog"
	"halyard/disk"
	"halyard/seglog"
	"halyard/table"
)

// plainStream: what the chapter's section 'Words' says that there is of a stream; and whether the table has its key.
type plainStream struct {
	open, lies bool
	next       uint64
	newest     *api.Stamp
}

// plainFrame: a frame that is there.
type plainFrame struct {
	frame api.Frame
	place uint64
}

// plain: a backlog as the chapter tells it, sentence by sentence, over a table that has only a capacity.
type plain struct {
	streams  [8]plainStream
	frames   []plainFrame // as they came
	capacity int
	down     bool       // the table's Commit answers ErrPower
	commits  [][]string // the changes of each commit since the last look: a key and its value, or a key and "gone"
}

func plainNumber(n uint64) string {
	s := string([]byte{byte(n % 128)})
	for n >>= 7; n > 0; n >>= 7 {
		s = string([]byte{byte(n%128) + 128}) + s
	}
	return s
}

func plainStreamKey(n int) string { return "b\x00" + string([]byte{byte(n)}) }

func plainFrameKey(f api.Frame) string {
	return "b\x01" + string([]byte{byte(f.Stream)}) + plainNumber(f.Stamp.Seq)
}

func (s plainStream) value() string {
	out := "\x00"
	if s.open {
		out = "\x01"
	}
	out += plainNumber(s.next)
	if s.next != 0 {
		out += plainNumber(s.newest.Time) + plainNumber(s.newest.Seq)
	}
	return out
}

func (f plainFrame) value() string {
	return plainNumber(f.place) + plainNumber(f.frame.Stamp.Time) + plainNumber(f.frame.Life) + plainNumber(uint64(len(f.frame.Data))) + string(f.frame.Data)
}

// pairs: what lies in the table.
func (p *plain) pairs() map[string]string {
	out := map[string]string{}
	for n, s := range p.streams {
		if s.lies {
			out[plainStreamKey(n)] = s.value()
		}
	}
	for _, f := range p.frames {
		out[plainFrameKey(f.frame)] = f.value()
	}
	return out
}

func plainLive(pairs map[string]string) (n int) {
	for k, v := range pairs {
		n += len(plainNumber(uint64(len(k)))) + len(k) + len(plainNumber(uint64(len(v)))) + len(v)
	}
	return n
}

// become: it is another one, by one commit of these changes: the commit's error, and nothing has changed then.
func (p *plain) become(next plain, changes ...string) api.Errno {
	if p.down {
		return api.ErrPower
	}
	if plainLive(next.pairs()) > p.capacity {
		return api.ErrFull
	}
	next.commits = append(p.commits, changes)
	*p = next
	return api.OK
}

// copied: for another state of it.
func (p *plain) copied() plain {
	next := *p
	next.frames = slices.Clone(p.frames)
	return next
}

func (p *plain) begin(n int) api.Errno {
	if n < 0 || n > 7 {
		return api.ErrArg
	}
	if p.streams[n].open {
		return api.ErrTwice
	}
	next := p.copied()
	next.streams[n].open, next.streams[n].lies = true, true
	return p.become(next, plainStreamKey(n), next.streams[n].value())
}

func (p *plain) cease(n int) api.Errno {
	if n < 0 || n > 7 {
		return api.ErrArg
	}
	if !p.streams[n].open {
		return api.ErrStream
	}
	next := p.copied()
	next.streams[n].open = false
	return p.become(next, plainStreamKey(n), next.streams[n].value())
}

func plainOver(f api.Frame, now uint64) bool {
	if now > 1<<48-1 {
		now = 1<<48 - 1
	}
	return f.Stamp.Time+f.Life <= now
}

func (p *plain) greatestPlace() (most uint64) {
	for _, f := range p.frames {
		if f.place > most {
			most = f.place
		}
	}
	return most
}

func (p *plain) put(n int, time, life uint64, data []byte, now uint64) (f api.Frame, newest bool, e api.Errno) {
	if n < 0 || n > 7 || time > 1<<48-1 || life > 1<<48-1 {
		return f, false, api.ErrArg
	}
	s := p.streams[n]
	if !s.open {
		return f, false, api.ErrStream
	}
	if len(data) > 512 {
		return f, false, api.ErrSize
	}
	f = api.Frame{Stream: n, Stamp: at(time, s.next), Life: life, Data: slices.Clone(data)}
	if plainOver(f, now) {
		return api.Frame{}, false, api.ErrExpired
	}
	if len(p.frames) == 64 {
		return api.Frame{}, false, api.ErrFull
	}
	if s.next == 1<<48 || p.greatestPlace() == 1<<62 {
		return api.Frame{}, false, api.ErrEnd
	}
	newest = s.newest == nil || s.newest.Less(f.Stamp)
	if newest {
		s.newest = ref(f.Stamp)
	}
	s.next++
	next := p.copied()
	next.streams[n] = s
	there := plainFrame{f, p.greatestPlace() + 1}
	next.frames = append(next.frames, there)
	if e := p.become(next, plainStreamKey(n), s.value(), plainFrameKey(f), there.value()); e != api.OK {
		return api.Frame{}, false, e
	}
	return f, newest, api.OK
}

func (p *plain) done(k api.Key) api.Errno {
	next := p.copied()
	for i, f := range p.frames {
		if f.frame.Stream == k.Stream && f.frame.Stamp.Seq == k.Seq {
			next.frames = slices.Delete(next.frames, i, i+1)
			return p.become(next, plainFrameKey(f.frame), "gone")
		}
	}
	return api.ErrNone
}

// tells: all that can be told of it, as text.
func (p *plain) tells() string {
	var b strings.Builder
	for n, s := range p.streams {
		fmt.Fprint(&b, n, ": ", s.open, s.next)
		if s.newest != nil {
			fmt.Fprint(&b, " newest ", *s.newest)
		}
		b.WriteString("\n")
	}
	for _, f := range p.frames {
		fmt.Fprintf(&b, " %d %v %d %x", f.frame.Stream, f.frame.Stamp, f.frame.Life, f.frame.Data)
	}
	return b.String()
}

// backlogTells: the same, as a backlog tells it.
func backlogTells(x *backlog.Backlog) string {
	var b strings.Builder
	for n := range 8 {
		fmt.Fprint(&b, n, ": ", slices.Contains(x.Streams(), n), x.Next(n))
		if s, ok := x.Newest(n); ok {
			fmt.Fprint(&b, " newest ", s)
		}
		b.WriteString("\n")
	}
	for _, k := range x.Keys() {
		f, ok := x.Get(k)
		if !ok || f.Stream != k.Stream || f.Stamp.Seq != k.Seq {
			fmt.Fprint(&b, " of another key:")
		}
		fmt.Fprintf(&b, " %d %v %d %x", f.Stream, f.Stamp, f.Life, f.Data)
	}
	return b.String()
}

// call: one call, as it is made on both.
type call struct {
	name            string // begin, cease, put, done, open (anew, over the same table), flush
	stream          int
	time, life, now uint64
	data            []byte
	seq             uint64
}

// pair: a backlog and what it must be.
type pair struct {
	t     *testing.T
	d     *disk.Disk
	tb    *table.Table
	b     *backlog.Backlog
	plain *plain
	next  uint64 // the number behind the log's last record that was looked at
	logs  bool   // is the log looked at?
}

// newPair: on a table that has these pairs at first: a key, a value, a key, and so on.
func newPair(t *testing.T, size int, logs bool, pairs ...string) *pair {
	t.Helper()
	d := formatted(t, size)
	x := &pair{t: t, d: d, tb: openTable(t, d), logs: logs}
	capacity := x.tb.Room()
	lay(t, x.tb, pairs...)
	p, ok := plainOpen(pairsOf(x.tb))
	if !ok {
		t.Fatalf("% x is not in form", pairs)
	}
	x.b, x.plain = open(t, x.tb), p
	p.capacity = capacity
	if logs {
		x.next = x.log().Next()
	}
	return x
}

// lay: pairs into a table.
func lay(t *testing.T, tb *table.Table, pairs ...string) {
	t.Helper()
	for i := 0; i < len(pairs); i += 2 {
		if e := tb.Commit(table.Change{Key: []byte(pairs[i]), Value: []byte(pairs[i+1])}); e != api.OK {
			t.Fatalf("P6.3: Commit of %x: %d", pairs[i], e)
		}
	}
}

func pairsOf(tb *table.Table) map[string]string {
	out := map[string]string{}
	for k, v := range tb.Walk(nil, nil) {
		out[string(k)] = string(v)
	}
	return out
}

// log: the table's, opened on a copy of the disk as it can be read now.
func (x *pair) log() *seglog.Log {
	x.t.Helper()
	other, _ := disk.New(x.d.Sectors())
	for i := range x.d.Sectors() {
		b, e := x.d.Read(i)
		if e != api.OK {
			x.t.Fatalf("P4.4: Read(%d): %d", i, e)
		}
		other.Write(i, b)
	}
	l, e := seglog.Open(other, 0, other.Sectors())
	if e != api.OK {
		x.t.Fatalf("P5.3: Open: %d", e)
	}
	return l
}

func cutPlainList(s string) (x, rest string) {
	n, front := int(s[0]), 1
	if s[0] >= 128 {
		n, front = 128*(n-128)+int(s[1]), 2
	}
	return s[front : front+n], s[front+n:]
}

// changes: of the record of a batch, in their order.
func changes(rec string) (out []string) {
	for rest := rec[2:]; rest != ""; {
		gone := rest[0] == 0
		var k, v string
		k, rest = cutPlainList(rest[1:])
		if v = "gone"; !gone {
			v, rest = cutPlainList(rest)
		}
		out = append(out, k, v)
	}
	return out
}

// looksAtLog: the commits since the last look are just those that the plain one made.
func (x *pair) looksAtLog(what string) {
	x.t.Helper()
	l := x.log()
	var got [][]string
	for _, rec := range l.Records(x.next) {
		if rec[0] == 1 {
			got = append(got, changes(string(rec)))
		}
	}
	if !slices.EqualFunc(got, x.plain.commits, slices.Equal) {
		x.t.Fatalf("P904: %s: the commits are %x, want %x", what, got, x.plain.commits)
	}
	x.next = l.Next()
}

// looks: both tell the same, and so does the table.
func (x *pair) looks(what string) {
	x.t.Helper()
	if got, want := backlogTells(x.b), x.plain.tells(); got != want {
		x.t.Fatalf("P908: behind %s it tells\n%s, want\n%s", what, got, want)
	}
	if got, want := pairsOf(x.tb), x.plain.pairs(); !maps.Equal(got, want) {
		x.t.Fatalf("P908: behind %s there lies %x, want %x", what, got, want)
	}
	if len(x.plain.frames) > 64 {
		x.t.Fatalf("P910: behind %s there are %d frames", what, len(x.plain.frames))
	}
	if x.logs && !x.plain.down {
		x.looksAtLog(what)
	}
	x.plain.commits = nil
}

// looksAt: Over at a time, Get at a key, Next and Newest at a stream that may be none.
func (x *pair) looksAt(now uint64, k api.Key) {
	x.t.Helper()
	var want []api.Key
	var f api.Frame
	there := false
	for _, y := range x.plain.frames {
		of := key(y.frame.Stream, y.frame.Stamp.Seq)
		if plainOver(y.frame, now) {
			want = append(want, of)
		}
		if of == k {
			f, there = y.frame, true
		}
	}
	if got := x.b.Over(now); !slices.Equal(got, want) {
		x.t.Fatalf("P906: Over(%d) = %v, want %v", now, got, want)
	}
	if got, ok := x.b.Get(k); ok != there || !same(got, f) {
		x.t.Fatalf("P906: Get(%v) = %v, %v, want %v, %v", k, got, ok, f, there)
	}
	if k.Stream < 0 || k.Stream > 7 {
		stands(x.t, "P906: no stream", x.b, k.Stream, 0, nil)
	}
}

// do: the call on both.
func (x *pair) do(c call) (e api.Errno) {
	x.t.Helper()
	what := fmt.Sprintf("%s(%d, %d, %d, %x, %d; %d)", c.name, c.stream, c.time, c.life, c.data, c.now, c.seq)
	var want api.Errno
	switch c.name {
	case "begin":
		e, want = x.b.Begin(c.stream), x.plain.begin(c.stream)
	case "cease":
		e, want = x.b.Cease(c.stream), x.plain.cease(c.stream)
	case "put":
		var f, g api.Frame
		var newest, should bool
		f, newest, e = x.b.Put(c.stream, c.time, c.life, c.data, c.now)
		g, should, want = x.plain.put(c.stream, c.time, c.life, c.data, c.now)
		if !same(f, g) || newest != should {
			x.t.Fatalf("P904: %s = %v, %v, want %v, %v", what, f, newest, g, should)
		}
	case "done":
		e, want = x.b.Done(key(c.stream, c.seq)), x.plain.done(key(c.stream, c.seq))
	case "open":
		x.b = open(x.t, x.tb)
	case "flush":
		e = x.tb.Flush()
	}
	if e != want {
		x.t.Fatalf("P901: %s = %d, want %d", what, e, want)
	}
	x.looks(what)
	return e
}

// alphabet: few calls with which much can be come to.
func alphabet() []call {
	return []call{
		{name: "begin", stream: 3},
		{name: "cease", stream: 3},
		{name: "put", stream: 3, time: 4, life: 2, data: []byte("ab"), now: 4},
		{name: "put", stream: 3, time: 3, life: 9, now: 4},
		{name: "put", stream: 3, time: 5, life: 0, data: []byte("c"), now: 4},
		{name: "put", stream: 2, time: 4, life: 2, data: []byte("d"), now: 4},
		{name: "put", stream: 3, time: 1, life: 3, now: 4},
		{name: "done", stream: 3, seq: 0},
		{name: "done", stream: 3, seq: 1},
		{name: "done", stream: 2, seq: 0},
		{name: "open"},
	}
}

// Every row of four calls behind a Begin, and every one of three without it; and every row of three where the counters are at their ends.
func TestEveryRowOfCalls(t *testing.T) {
	letters := alphabet()
	rows := 0
	var from func(start []string, row []call, more int)
	from = func(start []string, row []call, more int) {
		if more == 0 {
			rows++
			x := newPair(t, 90, false, start...)
			for _, c := range row {
				x.do(c)
				x.looksAt(5, key(3, 1))
			}
			return
		}
		for _, c := range letters {
			from(start, append(slices.Clone(row), c), more-1)
		}
	}
	from(nil, nil, 3)
	from(nil, []call{{name: "begin", stream: 2}, {name: "begin", stream: 3}}, 4)
	nearPlace := plainNumber(1<<62 - 1)
	from([]string{"b\x00\x02", "\x01\x00", "b\x00\x03", "\x01\x01\x04\x00", "b\x01\x03\x00", nearPlace + "\x04\x02\x00"}, nil, 3)
	from([]string{"b\x00\x02", "\x01\x00", "b\x00\x03", "\x01" + plainNumber(1<<48-1) + "\x04\x00", "b\x01\x03\x00", "\x09\x04\x02\x00"}, nil, 3)
	if rows != 3*1331+14641 {
		t.Errorf("%d rows", rows)
	}
}

// someCall: mostly one that can be done.
func someCall(r *rand.Rand, p *plain, streams, times, most int) call {
	c := call{stream: r.Intn(streams), time: uint64(r.Intn(times)), life: uint64(r.Intn(times)), now: uint64(r.Intn(times))}
	switch n := r.Intn(20); {
	case n < 2:
		c.name = "begin"
	case n < 3:
		c.name = "cease"
	case n < 4:
		c.name = []string{"open", "flush"}[r.Intn(2)]
	case n < 9:
		c.name, c.seq = "done", uint64(r.Intn(9))
		if len(p.frames) > 0 && r.Intn(8) > 0 {
			f := p.frames[r.Intn(len(p.frames))].frame
			c.stream, c.seq = f.Stream, f.Stamp.Seq
		}
	default:
		c.name, c.data = "put", make([]byte, r.Intn(most+1))
		r.Read(c.data)
	}
	return odd(r, c)
}

// odd: now and then something in it is at a bound, or beyond it.
func odd(r *rand.Rand, c call) call {
	bounds := []uint64{1<<48 - 2, 1<<48 - 1, 1 << 48, top}
	switch r.Intn(80) {
	case 0:
		c.stream = []int{-1, 8, 256, -1 << 40}[r.Intn(4)]
	case 1:
		c.time = bounds[r.Intn(4)]
	case 2:
		c.life = bounds[r.Intn(4)]
	case 3:
		c.now = bounds[r.Intn(4)]
	case 4:
		c.seq = bounds[r.Intn(4)]
	case 5:
		c.data = make([]byte, 511+r.Intn(3))
	case 6:
		c.time, c.now = bounds[r.Intn(4)], bounds[r.Intn(4)]
	}
	return c
}

// Any calls, in tables of much and of little room: the answers, what is told, what lies in the table, and the commits in its log.
func TestAnyCalls(t *testing.T) {
	r := rand.New(rand.NewSource(91))
	for _, c := range []struct{ size, streams, times, most, calls int }{
		{400, 2, 12, 6, 1000}, {400, 8, 30, 9, 1000}, {200, 8, 9, 40, 1500}, {83, 3, 12, 6, 2000}, {85, 8, 12, 10, 2000}, {500, 3, 6, 512, 700},
	} {
		x := newPair(t, c.size, true)
		seen := map[api.Errno]int{}
		for range c.calls {
			seen[x.do(someCall(r, x.plain, c.streams, c.times, c.most))]++
			x.looksAt(uint64(r.Intn(2*c.times)), key(r.Intn(10)-1, uint64(r.Intn(20))))
		}
		for _, e := range []api.Errno{api.OK, api.ErrArg, api.ErrTwice, api.ErrStream, api.ErrSize, api.ErrExpired, api.ErrNone} {
			if seen[e] == 0 {
				t.Errorf("%d sectors: the answer %d did not come up", c.size, e)
			}
		}
		if c.size < 100 && seen[api.ErrFull] == 0 {
			t.Errorf("%d sectors: ErrFull did not come up", c.size)
		}
	}
}

// Any calls around MaxPending frames.
func TestAroundFull(t *testing.T) {
	r := rand.New(rand.NewSource(92))
	x := newPair(t, 600, false)
	for n := range 8 {
		x.do(call{name: "begin", stream: n})
	}
	full, most := 0, 0
	for range 4000 {
		c := call{name: "put", stream: r.Intn(8), time: uint64(r.Intn(50)), life: 50, data: make([]byte, r.Intn(30))}
		if len(x.plain.frames) > 60 && r.Intn(2) == 0 {
			f := x.plain.frames[r.Intn(len(x.plain.frames))].frame
			c = call{name: "done", stream: f.Stream, seq: f.Stamp.Seq}
		}
		if r.Intn(40) == 0 {
			c = call{name: "open"}
		}
		if x.do(c) == api.ErrFull {
			full++
		}
		most = max(most, len(x.plain.frames))
	}
	if full < 100 || most != 64 {
		t.Errorf("P910: %d times full, %d frames at most", full, most)
	}
}

// Any calls where a stream's number, or the places, come to their end.
func TestAroundTheEnd(t *testing.T) {
	r := rand.New(rand.NewSource(93))
	ends := 0
	for range 60 {
		next := uint64(1<<48 - r.Intn(5))
		place := uint64(1<<62 - r.Intn(9))
		newest := plainNumber(uint64(r.Intn(12))) + plainNumber(next-1)
		x := newPair(t, 300, true, "b\x00\x00", "\x01"+plainNumber(next)+newest, "b\x00\x01", "\x01\x01\x05\x00", "b\x01\x01\x00", plainNumber(place)+"\x05\x03\x00")
		for range 60 {
			if x.do(someCall(r, x.plain, 2, 12, 4)) == api.ErrEnd {
				ends++
			}
			x.looksAt(uint64(r.Intn(20)), key(r.Intn(2), next+uint64(r.Intn(4))-2))
		}
	}
	if ends < 100 {
		t.Errorf("P904: %d times at the end", ends)
	}
}
