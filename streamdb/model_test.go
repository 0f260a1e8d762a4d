package streamdb_test

import (
	"fmt"
	"maps"
	"math/rand"
	"slices"
	"strings"
	"testing"

	"halyard/api"
	"halyard/disk"
	"halyard/seglog"
	"halyard/streamdb"
	"halyard/table"
)

// plainStream: what the chapter's section 'Words' says that a database knows of a stream.
type plainStream struct {
	quota       *api.Quota // nil: nobody listens to it
	high, floor *api.Stamp
	frames      []api.Frame // rising
}

// plain: a database as the chapter tells it, sentence by sentence, over a table that has only a capacity.
type plain struct {
	streams  [8]plainStream
	capacity int
	down     bool // the table's Commit answers ErrPower
	// What the calls committed: each change as its key and its value, or its key and "gone"; and what was told behind each commit.
	commits []map[string]string
	told    []string
}

func plainNumber(n uint64) string {
	s := string([]byte{byte(n % 128)})
	for n >>= 7; n > 0; n >>= 7 {
		s = string([]byte{byte(n%128) + 128}) + s
	}
	return s
}

func plainStreamKey(n int) string { return "ds" + string([]byte{byte(n)}) }

func plainFrameKey(f api.Frame) string {
	s := "df" + string([]byte{byte(f.Stream)})
	for _, n := range []uint64{f.Stamp.Time, f.Stamp.Seq} {
		s += string([]byte{byte(n >> 40), byte(n >> 32), byte(n >> 24), byte(n >> 16), byte(n >> 8), byte(n)})
	}
	return s
}

func plainFrameValue(f api.Frame) string {
	return plainNumber(f.Life) + plainNumber(uint64(len(f.Data))) + string(f.Data)
}

// value: of a stream's key; "", if it has none.
func (s plainStream) value() string {
	if s.quota == nil && s.high == nil && s.floor == nil {
		return ""
	}
	out := "\x00\x00\x00"
	if s.quota != nil {
		out = "\x01" + plainNumber(uint64(s.quota.Count)) + plainNumber(uint64(s.quota.Bytes))
	}
	for _, m := range []*api.Stamp{s.high, s.floor} {
		if m == nil {
			out += "\x00\x00\x00"
		} else {
			out += "\x01" + plainNumber(m.Time) + plainNumber(m.Seq)
		}
	}
	return out
}

// pairs: what lies in the table.
func (p *plain) pairs() map[string]string {
	out := map[string]string{}
	for n, s := range p.streams {
		if v := s.value(); v != "" {
			out[plainStreamKey(n)] = v
		}
		for _, f := range s.frames {
			out[plainFrameKey(f)] = plainFrameValue(f)
		}
	}
	return out
}

func plainLive(pairs map[string]string) (n int) {
	for k, v := range pairs {
		n += len(plainNumber(uint64(len(k)))) + len(k) + len(plainNumber(uint64(len(v)))) + len(v)
	}
	return n
}

// become: a stream is another one from now on, by one commit: its error, and nothing has changed then.
func (p *plain) become(n int, next plainStream) api.Errno {
	was := *p
	old := p.pairs()
	p.streams[n] = next
	now := p.pairs()
	if p.down {
		*p = was
		return api.ErrPower
	}
	if plainLive(now) > p.capacity {
		*p = was
		return api.ErrFull
	}
	commit := map[string]string{}
	for k, v := range now {
		if w, ok := old[k]; !ok || w != v {
			commit[k] = v
		}
	}
	for k := range old {
		if _, ok := now[k]; !ok {
			commit[k] = "gone"
		}
	}
	p.commits = append(p.commits, commit)
	p.told = append(p.told, p.tells())
	return api.OK
}

// tells: all that can be told of it, as text.
func (p *plain) tells() string {
	var b strings.Builder
	for n, s := range p.streams {
		fmt.Fprint(&b, n, ":")
		if s.quota != nil {
			fmt.Fprint(&b, " quota ", *s.quota)
		}
		if s.high != nil {
			fmt.Fprint(&b, " high ", *s.high)
		}
		if s.floor != nil {
			fmt.Fprint(&b, " floor ", *s.floor)
		}
		count, bytes := s.size()
		fmt.Fprint(&b, " count ", count, bytes)
		for _, f := range s.frames {
			fmt.Fprintf(&b, " %d %v %d %x", f.Stream, f.Stamp, f.Life, f.Data)
		}
		b.WriteString("\n")
	}
	return b.String()
}

// dbTells: the same, as a database tells it.
func dbTells(db *streamdb.DB) string {
	var b strings.Builder
	for n := range 8 {
		fmt.Fprint(&b, n, ":")
		if q, ok := db.Quota(n); ok {
			fmt.Fprint(&b, " quota ", q)
		}
		if s, ok := db.High(n); ok {
			fmt.Fprint(&b, " high ", s)
		}
		if s, ok := db.Floor(n); ok {
			fmt.Fprint(&b, " floor ", s)
		}
		count, bytes := db.Count(n)
		fmt.Fprint(&b, " count ", count, bytes)
		for f := range db.Frames(n) {
			fmt.Fprintf(&b, " %d %v %d %x", f.Stream, f.Stamp, f.Life, f.Data)
		}
		b.WriteString("\n")
	}
	return b.String()
}

func plainClock(now uint64) uint64 {
	if now > 1<<48-1 {
		return 1<<48 - 1
	}
	return now
}

func (s plainStream) size() (count, bytes int) {
	for _, f := range s.frames {
		count++
		bytes += len(f.Data)
	}
	return count, bytes
}

func (s plainStream) holds() bool {
	count, bytes := s.size()
	return count <= s.quota.Count && bytes <= s.quota.Bytes
}

func (p *plain) listen(n int, q api.Quota) api.Errno {
	switch {
	case n < 0 || n > 7:
		return api.ErrArg
	case q.Count < 1 || q.Count > 64 || q.Bytes < 1 || q.Bytes > 16384:
		return api.ErrQuota
	case p.streams[n].quota != nil:
		return api.ErrTwice
	}
	next := p.streams[n]
	next.quota = &q
	return p.become(n, next)
}

func (p *plain) unlisten(n int) api.Errno {
	if n < 0 || n > 7 {
		return api.ErrArg
	}
	if p.streams[n].quota == nil {
		return api.ErrStream
	}
	return p.become(n, plainStream{high: p.streams[n].high, floor: p.streams[n].floor})
}

func (p *plain) insert(f api.Frame, now uint64, show bool) (bool, api.Errno) {
	now = plainClock(now)
	if f.Stream < 0 || f.Stream > 7 || f.Stamp.Time > 1<<48-1 || f.Stamp.Seq > 1<<48-1 || f.Life > 1<<48-1 || len(f.Data) > 512 {
		return false, api.ErrArg
	}
	s := p.streams[f.Stream]
	if s.quota == nil {
		return false, api.ErrStream
	}
	if len(f.Data) > s.quota.Bytes {
		return false, api.ErrSize
	}
	if f.Stamp.Time+f.Life <= now {
		return false, api.ErrExpired
	}
	if s.floor != nil && !s.floor.Less(f.Stamp) {
		return false, api.ErrOld
	}
	var below, above []api.Frame
	for _, x := range s.frames {
		switch {
		case x.Stamp == f.Stamp:
			return false, api.ErrTwice
		case x.Stamp.Less(f.Stamp):
			below = append(below, x)
		default:
			above = append(above, x)
		}
	}
	alone := plainStream{quota: s.quota, frames: append([]api.Frame{f}, above...)}
	if !alone.holds() {
		return false, api.ErrOld
	}
	s.frames = slices.Concat(below, alone.frames)
	for !s.holds() {
		s.floor = ref(s.frames[0].Stamp)
		s.frames = s.frames[1:]
	}
	shown := show && (s.high == nil || s.high.Less(f.Stamp))
	if shown {
		s.high = ref(f.Stamp)
	}
	if e := p.become(f.Stream, s); e != api.OK {
		return false, e
	}
	return shown, api.OK
}

func (p *plain) sweep(now uint64) (int, api.Errno) {
	swept := 0
	for n := range p.streams {
		s := p.streams[n]
		var stay []api.Frame
		for _, f := range s.frames {
			if f.Stamp.Time+f.Life > plainClock(now) {
				stay = append(stay, f)
			}
		}
		if len(stay) == len(s.frames) {
			continue
		}
		went := len(s.frames) - len(stay)
		s.frames = stay
		if e := p.become(n, s); e != api.OK {
			return 0, e
		}
		swept += went
	}
	return swept, api.OK
}

// call: one call, as it is made on both.
type call struct {
	name   string // listen, unlisten, insert, sweep, open (anew, over the same table), flush
	stream int
	quota  api.Quota
	frame  api.Frame
	now    uint64
	show   bool
}

// pair: a database and what it must be.
type pair struct {
	t     *testing.T
	d     *disk.Disk
	tb    *table.Table
	db    *streamdb.DB
	plain *plain
	next  uint64 // the number behind the log's last record that was looked at
	logs  bool   // is the log looked at?
}

func newPair(t *testing.T, size int, logs bool) *pair {
	t.Helper()
	d := formatted(t, size)
	x := &pair{t: t, d: d, tb: openTable(t, d), logs: logs}
	x.db = openDB(t, x.tb)
	x.plain = &plain{capacity: x.tb.Room()}
	if logs {
		x.next = x.log().Next()
	}
	return x
}

// log: the table's, opened on a copy of the disk as it can be read now.
func (x *pair) log() *seglog.Log {
	x.t.Helper()
	other, _ := disk.New(x.d.Sectors())
	for i := range x.d.Sectors() {
		b, e := x.d.Read(i)
		if e != api.OK {
			x.t.Fatalf("P4.2: Read(%d): %d", i, e)
		}
		other.Write(i, b)
	}
	l, e := seglog.Open(other, 0, other.Sectors())
	if e != api.OK {
		x.t.Fatalf("P5.3: Open: %d", e)
	}
	return l
}

func cutPlainList(s string) (x, rest string) {
	n, front := int(s[0]), 1
	if s[0] >= 128 {
		n, front = 128*(n-128)+int(s[1]), 2
	}
	return s[front : front+n], s[front+n:]
}

// changes: of the record of a batch; twice: is a key named twice?
func changes(rec string) (out map[string]string, twice bool) {
	out = map[string]string{}
	for rest := rec[2:]; rest != ""; {
		gone := rest[0] == 0
		var k, v string
		k, rest = cutPlainList(rest[1:])
		if v = "gone"; !gone {
			v, rest = cutPlainList(rest)
		}
		_, again := out[k]
		twice = twice || again
		out[k] = v
	}
	return out, twice
}

// looksAtLog: the commits since the last look are just those that the plain one made.
func (x *pair) looksAtLog(what string) {
	x.t.Helper()
	l := x.log()
	var got []map[string]string
	for _, rec := range l.Records(x.next) {
		if rec[0] == 1 {
			c, twice := changes(string(rec))
			if twice {
				x.t.Fatalf("P801: %s: a key is named twice in one commit", what)
			}
			got = append(got, c)
		}
	}
	want := x.plain.commits
	if l.First() > x.next && len(got) < len(want) { // a checkpoint gave the first ones up
		want = want[len(want)-len(got):]
	}
	if !slices.EqualFunc(got, want, maps.Equal) {
		x.t.Fatalf("P801: %s: the commits are %x, want %x", what, got, want)
	}
	x.next = l.Next()
}

// looks: both tell the same, and so do the table and Least and Greatest.
func (x *pair) looks(what string) {
	x.t.Helper()
	if got, want := dbTells(x.db), x.plain.tells(); got != want {
		x.t.Fatalf("P807: behind %s it tells\n%s, want\n%s", what, got, want)
	}
	pairs := map[string]string{}
	for k, v := range x.tb.Walk(nil, nil) {
		pairs[string(k)] = string(v)
	}
	if want := x.plain.pairs(); !maps.Equal(pairs, want) {
		x.t.Fatalf("P809: behind %s there lies %x, want %x", what, pairs, want)
	}
	if x.logs && !x.plain.down {
		x.looksAtLog(what)
	}
	x.plain.commits = nil
}

// looksAlong: Least and Greatest at a stamp.
func (x *pair) looksAlong(n int, s api.Stamp) {
	x.t.Helper()
	var least, greatest api.Frame
	var up, down bool
	if n >= 0 && n <= 7 {
		for _, f := range x.plain.streams[n].frames {
			if !s.Less(f.Stamp) {
				greatest, down = f, true
			}
			if !f.Stamp.Less(s) && !up {
				least, up = f, true
			}
		}
	}
	if f, ok := x.db.Least(n, s); ok != up || !same(f, least) {
		x.t.Fatalf("P806: Least(%d, %v) = %v, %v, want %v, %v", n, s, f, ok, least, up)
	}
	if f, ok := x.db.Greatest(n, s); ok != down || !same(f, greatest) {
		x.t.Fatalf("P806: Greatest(%d, %v) = %v, %v, want %v, %v", n, s, f, ok, greatest, down)
	}
}

// do: the call on both.
func (x *pair) do(c call) (e api.Errno) {
	x.t.Helper()
	what := fmt.Sprintf("%s(%d %v %v %d %v)", c.name, c.stream, c.quota, c.frame, c.now, c.show)
	var want api.Errno
	switch c.name {
	case "listen":
		e, want = x.db.Listen(c.stream, c.quota), x.plain.listen(c.stream, c.quota)
	case "unlisten":
		e, want = x.db.Unlisten(c.stream), x.plain.unlisten(c.stream)
	case "insert":
		var shown, should bool
		shown, e = x.db.Insert(c.frame, c.now, c.show)
		if should, want = x.plain.insert(c.frame, c.now, c.show); shown != should {
			x.t.Fatalf("P804: %s shows %v, want %v", what, shown, should)
		}
	case "sweep":
		var n, m int
		n, e = x.db.Sweep(c.now)
		if m, want = x.plain.sweep(c.now); n != m {
			x.t.Fatalf("P805: %s = %d, want %d", what, n, m)
		}
	case "open":
		x.db = openDB(x.t, x.tb)
	case "flush":
		e = x.tb.Flush()
	}
	if e != want {
		x.t.Fatalf("P801: %s = %d, want %d", what, e, want)
	}
	x.looks(what)
	return e
}

// alphabet: few calls with which much can be come to.
func alphabet() []call {
	f := func(time, seq, life uint64, data string) api.Frame {
		return api.Frame{Stream: 3, Stamp: at(time, seq), Life: life, Data: []byte(data)}
	}
	return []call{
		{name: "listen", stream: 3, quota: quota(2, 5)},
		{name: "listen", stream: 3, quota: quota(1, 9)},
		{name: "unlisten", stream: 3},
		{name: "insert", frame: f(4, 0, 9, "ab"), now: 4, show: true},
		{name: "insert", frame: f(4, 1, 2, "abc"), now: 4, show: true},
		{name: "insert", frame: f(5, 0, 9, "abcde"), now: 4},
		{name: "insert", frame: f(5, 1, 0, ""), now: 4, show: true},
		{name: "insert", frame: f(3, 9, 9, "abcdef"), now: 4, show: true},
		{name: "sweep", now: 6},
		{name: "open"},
	}
}

// Every row of five calls behind a Listen, and every one of four without it.
func TestEveryRowOfCalls(t *testing.T) {
	letters := alphabet()
	var from func(row []call, more int)
	rows := 0
	from = func(row []call, more int) {
		if more == 0 {
			rows++
			x := newPair(t, 90, false)
			for _, c := range row {
				x.do(c)
			}
			return
		}
		for _, c := range letters {
			from(append(slices.Clone(row), c), more-1)
		}
	}
	from(nil, 3)
	from(letters[:1], 4)
	if rows != 11000 {
		t.Errorf("%d rows", rows)
	}
}

// someFrame: mostly a good one of few stamps.
func someFrame(r *rand.Rand, streams, times, seqs, most int) api.Frame {
	f := api.Frame{Stream: r.Intn(streams), Stamp: at(uint64(r.Intn(times)), uint64(r.Intn(seqs))), Life: uint64(r.Intn(times))}
	f.Data = make([]byte, r.Intn(most+1))
	r.Read(f.Data)
	switch r.Intn(60) {
	case 0:
		f.Stream = []int{-1, 8, 256, -1 << 40}[r.Intn(4)]
	case 1:
		f.Stamp.Time = 1 << 48
	case 2:
		f.Stamp.Seq = top - uint64(r.Intn(2))
	case 3:
		f.Life = 1<<48 - uint64(r.Intn(2))
	case 4:
		f.Data = make([]byte, 511+r.Intn(3))
	case 5:
		f.Stamp.Time, f.Life = 1<<48-1-uint64(r.Intn(3)), uint64(r.Intn(3))
	}
	return f
}

func someCall(r *rand.Rand, streams, times, seqs, most int) call {
	c := call{stream: r.Intn(streams), now: uint64(r.Intn(times)), show: r.Intn(2) == 0}
	if r.Intn(40) == 0 {
		c.now = []uint64{1<<48 - 1, 1 << 48, top}[r.Intn(3)]
	}
	switch r.Intn(20) {
	case 0, 1, 2:
		c.name, c.quota = "listen", quota(1+r.Intn(6), 1+r.Intn(3*most))
		if r.Intn(20) == 0 {
			c.quota = quota(r.Intn(3)-1, r.Intn(3)-1)
		}
		if r.Intn(20) == 0 {
			c.stream = []int{-1, 8}[r.Intn(2)]
		}
	case 3:
		c.name = "unlisten"
		if r.Intn(20) == 0 {
			c.stream = []int{-1, 8}[r.Intn(2)]
		}
	case 4:
		c.name = "sweep"
	case 5:
		c.name = []string{"open", "flush"}[r.Intn(2)]
	default:
		c.name, c.frame = "insert", someFrame(r, streams, times, seqs, most)
	}
	return c
}

// Any calls, in tables of much and of little room; the answers, what is told, what lies in the table, and the commits in its log.
func TestAnyCalls(t *testing.T) {
	r := rand.New(rand.NewSource(81))
	for _, c := range []struct{ size, streams, times, seqs, most, calls int }{
		{400, 2, 12, 3, 6, 2500}, {400, 8, 30, 4, 9, 2500}, {200, 8, 9, 9, 40, 2500}, {83, 3, 12, 3, 6, 2500}, {85, 8, 12, 3, 10, 2500}, {300, 3, 6, 30, 512, 2500},
	} {
		x := newPair(t, c.size, true)
		seen := map[api.Errno]int{}
		for range c.calls {
			seen[x.do(someCall(r, c.streams, c.times, c.seqs, c.most))]++
			x.looksAlong(r.Intn(10)-1, at(uint64(r.Intn(c.times+2)), uint64(r.Intn(c.seqs+1))))
		}
		for _, e := range []api.Errno{api.OK, api.ErrArg, api.ErrTwice, api.ErrStream, api.ErrSize, api.ErrExpired, api.ErrOld, api.ErrQuota} {
			if seen[e] == 0 {
				t.Errorf("%d sectors: the answer %d did not come up", c.size, e)
			}
		}
		if c.size < 100 && seen[api.ErrFull] == 0 {
			t.Errorf("%d sectors: ErrFull did not come up", c.size)
		}
	}
}

// Great streams: more than one page of the index, quotas up to the greatest.
func TestGreatStreams(t *testing.T) {
	r := rand.New(rand.NewSource(82))
	x := newPair(t, 1200, false)
	for n := range 8 {
		x.do(call{name: "listen", stream: n, quota: quota(64-n, 16384>>n)})
	}
	for step := range 3000 {
		f := someFrame(r, 8, 40, 40, 60)
		f.Stamp.Time += uint64(step / 40)
		f.Life = 60 + uint64(r.Intn(40))
		x.do(call{name: "insert", frame: f, now: uint64(step / 40), show: r.Intn(2) == 0})
		if step%300 == 0 {
			x.do(call{name: "sweep", now: uint64(step / 40)})
			x.do(call{name: "open"})
		}
	}
	if n, _ := x.db.Count(0); n != 64 {
		t.Errorf("P807: %d frames", n)
	}
}
