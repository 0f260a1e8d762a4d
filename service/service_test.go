package service_test

import (
	"bytes"
	"math"
	"slices"
	"testing"

	"halyard/api"
	"halyard/bundle"
	"halyard/disk"
	"halyard/inbox"
	"halyard/octet"
	"halyard/pdu"
	"halyard/service"
	"halyard/table"
)

const top = api.MaxNumber

func config() api.Config {
	return api.Config{Mtu: 64, AckTime: 10, RetryTime: 20, Retries: 2, Window: 2, Inbox: 4}
}

// small: the config with segments of 16 bytes, so that each block has several.
func small() api.Config {
	c := config()
	c.Mtu = 16
	return c
}

// rig: a service with what is beneath it.
type rig struct {
	*service.Service
	t  *testing.T
	d  *disk.Disk
	tb *table.Table
}

// freshTable: on a disk of its own, formatted and opened: its epoch is 2.
func freshTable(t *testing.T, sectors int) (*disk.Disk, *table.Table) {
	t.Helper()
	d, _ := disk.New(sectors)
	if e := table.Format(d, 0, sectors); e != api.OK {
		t.Fatalf("P6.1: Format = %v", e)
	}
	tb, e := table.Open(d, 0, sectors)
	if e != api.OK {
		t.Fatalf("P6.2: Open = %v", e)
	}
	return d, tb
}

func fresh(t *testing.T, c api.Config, self, peer, now uint64) *rig {
	t.Helper()
	return freshOn(t, 400, c, self, peer, now)
}

// freshOn: on a disk of so many sectors.
func freshOn(t *testing.T, sectors int, c api.Config, self, peer, now uint64) *rig {
	t.Helper()
	d, tb := freshTable(t, sectors)
	s, x, e := service.Open(tb, c, self, peer, now)
	if s == nil || e != api.OK || !sameEffect(x, service.Effect{}) {
		t.Fatalf("P1702: Open = %v, %+v, %v", s, x, e)
	}
	return &rig{t: t, d: d, tb: tb, Service: s}
}

// pair: the two services of the examples, at time 100: 1 has begun stream 3, 2 listens to it.
func pair(t *testing.T, c api.Config) (one, two *rig) {
	t.Helper()
	one, two = fresh(t, c, 1, 2, 100), fresh(t, c, 2, 1, 100)
	one.begins(3)
	two.listens(3, 4, 1000)
	return one, two
}

func (r *rig) begins(stream int) {
	r.t.Helper()
	if e := r.Backlog().Begin(stream); e != api.OK {
		r.t.Fatalf("P903: Begin(%d) = %v", stream, e)
	}
}

func (r *rig) listens(stream, count, bytes int) {
	r.t.Helper()
	if e := r.DB().Listen(stream, api.Quota{Count: count, Bytes: bytes}); e != api.OK {
		r.t.Fatalf("P803: Listen(%d) = %v", stream, e)
	}
}

// anew: the next life of the service, over what was flushed.
func (r *rig) anew(c api.Config, self, peer, now uint64) service.Effect {
	r.t.Helper()
	if e := r.tb.Flush(); e != api.OK {
		r.t.Fatalf("P6.4: Flush = %v", e)
	}
	r.d.Crash(nil)
	tb, e := table.Open(r.d, 0, r.d.Sectors())
	if e != api.OK {
		r.t.Fatalf("P6.2: Open = %v", e)
	}
	s, x, e := service.Open(tb, c, self, peer, now)
	if e != api.OK {
		r.t.Fatalf("P1702: Open = %v", e)
	}
	r.tb, r.Service = tb, s
	return x
}

func key(stream int, seq uint64) api.Key { return api.Key{Stream: stream, Seq: seq} }

func keys(l ...api.Key) []api.Key { return l }

func frame(stream int, time, seq, life uint64, data string) api.Frame {
	return api.Frame{Stream: stream, Stamp: api.Stamp{Time: time, Seq: seq}, Life: life, Data: []byte(data)}
}

func sameUnit(a, b api.Unit) bool {
	return a.Kind == b.Kind && a.Epoch == b.Epoch && a.Session == b.Session && a.Path == b.Path && a.Index == b.Index && a.Count == b.Count &&
		bytes.Equal(a.Data, b.Data) && a.Code == b.Code && slices.Equal(a.Got, b.Got)
}

func sameFrame(a, b api.Frame) bool {
	return a.Stream == b.Stream && a.Stamp == b.Stamp && a.Life == b.Life && bytes.Equal(a.Data, b.Data)
}

func sameEffect(x, y service.Effect) bool {
	return slices.EqualFunc(x.Units, y.Units, sameUnit) && slices.EqualFunc(x.Shown, y.Shown, sameFrame) && slices.Equal(x.Done, y.Done) && slices.Equal(x.Rest, y.Rest)
}

// blockOf: of a frame, from a node to another one.
func blockOf(t *testing.T, f api.Frame, from, to uint64, newest bool) []byte {
	t.Helper()
	b, e := bundle.Wrap(f, from, to, newest)
	if e != api.OK {
		t.Fatalf("P206: Wrap(%v) = %v", f, e)
	}
	return encoded(t, b)
}

func encoded(t *testing.T, b bundle.Bundle) []byte {
	t.Helper()
	block, e := bundle.Encode(b)
	if e != api.OK {
		t.Fatalf("P203: Encode(%v) = %v", b, e)
	}
	return block
}

// unitsOf: a session's units of all its segments.
func unitsOf(epoch, number uint64, path int, block []byte, mtu int) (l []api.Unit) {
	count := (len(block) + mtu - 1) / mtu
	for i := range count {
		l = append(l, api.Unit{Kind: api.Data, Epoch: epoch, Session: number, Path: path, Index: i, Count: count, Data: block[i*mtu : min(i*mtu+mtu, len(block))]})
	}
	return l
}

// fast, slow: the units by which 1, in its first life, sends a frame of the tests that have one segment a block.
func fast(t *testing.T, number uint64, f api.Frame) api.Unit {
	t.Helper()
	return unitsOf(2, number, api.Express, blockOf(t, f, 1, 2, true), 64)[0]
}

func slow(t *testing.T, number uint64, f api.Frame, newest bool) api.Unit {
	t.Helper()
	return unitsOf(2, number, api.Freight, blockOf(t, f, 1, 2, newest), 64)[0]
}

func report(epoch, session uint64, code int, got ...api.Range) api.Unit {
	return api.Unit{Kind: api.Report, Epoch: epoch, Session: session, Code: code, Got: got}
}

func cancel(epoch, session uint64) api.Unit {
	return api.Unit{Kind: api.Cancel, Epoch: epoch, Session: session}
}

func span(from, to int) api.Range { return api.Range{From: from, To: to} }

func sent(l ...api.Unit) service.Effect { return service.Effect{Units: l} }

func done(k api.Key, code int, l ...api.Unit) service.Effect {
	return service.Effect{Units: l, Done: []api.Done{{Key: k, Code: code}}}
}

func shown(f api.Frame, l ...api.Unit) service.Effect {
	return service.Effect{Units: l, Shown: []api.Frame{f}}
}

func encode(t *testing.T, u api.Unit) []byte {
	t.Helper()
	b, e := pdu.Encode(u)
	if e != api.OK {
		t.Fatalf("P302: Encode(%+v) = %v", u, e)
	}
	return b
}

func (r *rig) sends(f api.Frame, now uint64, want ...api.Unit) {
	r.t.Helper()
	k, x, e := r.Send(f.Stream, f.Stamp.Time, f.Life, f.Data, now)
	if e != api.OK || k != key(f.Stream, f.Stamp.Seq) || !sameEffect(x, sent(want...)) {
		r.t.Fatalf("P1703: Send(%v, %d) = %v, %+v, %v, want %+v", f, now, k, x, e, want)
	}
}

func (r *rig) sendsNot(stream int, time, life uint64, bytes int, now uint64, want api.Errno) {
	r.t.Helper()
	if k, x, e := r.Send(stream, time, life, make([]byte, bytes), now); e != want || k != (api.Key{}) || !sameEffect(x, service.Effect{}) {
		r.t.Fatalf("P1703: Send(%d, %d, %d, %d bytes, %d) = %v, %+v, %v, want %v", stream, time, life, bytes, now, k, x, e, want)
	}
}

// comes: what a call answered, with no error.
func (r *rig) comes(what string, x service.Effect, e api.Errno, want service.Effect) {
	r.t.Helper()
	if e != api.OK || !sameEffect(x, want) {
		r.t.Fatalf("%s = %+v, %v, want %+v", what, x, e, want)
	}
}

func (r *rig) hears(u api.Unit, now uint64, want service.Effect) {
	r.t.Helper()
	x, e := r.Hear(encode(r.t, u), now)
	r.comes("P1706: Hear", x, e, want)
}

func (r *rig) ticks(now uint64, want service.Effect) {
	r.t.Helper()
	x, e := r.Tick(now)
	r.comes("P1707: Tick", x, e, want)
}

func (r *rig) kicks(now uint64, want ...api.Unit) {
	r.t.Helper()
	x, e := r.Kick(now)
	r.comes("P1705: Kick", x, e, sent(want...))
}

func (r *rig) cancels(k api.Key, now uint64, want ...api.Unit) {
	r.t.Helper()
	x, e := r.Cancel(k, now)
	r.comes("P1704: Cancel", x, e, done(k, api.Cancelled, want...))
}

// holds: the frames of the backlog, in the order in which they came.
func (r *rig) holds(want ...api.Key) {
	r.t.Helper()
	if got := r.Backlog().Keys(); !slices.Equal(got, want) {
		r.t.Fatalf("P1709: the backlog has %v, want %v", got, want)
	}
}

// stands: where the frames are.
func (r *rig) stands(express, freight, waiting, resting []api.Key) {
	r.t.Helper()
	x := r.State()
	if !slices.Equal(x.Express, express) || !slices.Equal(x.Freight, freight) || !slices.Equal(x.Waiting, waiting) || !slices.Equal(x.Resting, resting) {
		r.t.Fatalf("P1708: State = %+v, want %v, %v, %v, %v", x, express, freight, waiting, resting)
	}
}

// has: the frames of a stream of the database.
func (r *rig) has(stream int, want ...api.Frame) {
	r.t.Helper()
	if got := slices.Collect(r.DB().Frames(stream)); !slices.EqualFunc(got, want, sameFrame) {
		r.t.Fatalf("P1706: stream %d has %v, want %v", stream, got, want)
	}
}

// goesTo: the clock.
func (r *rig) goesTo(want uint64) {
	r.t.Helper()
	if got := r.State().Now; got != want {
		r.t.Fatalf("P1708: the clock is %d, want %d", got, want)
	}
}

// inboxHas: the numbers of the sessions of the inbox, of one epoch.
func (r *rig) inboxHas(epoch uint64, open, decided []uint64) {
	r.t.Helper()
	of := func(l []uint64) (out []inbox.Session) {
		for _, n := range l {
			out = append(out, inbox.Session{Epoch: epoch, Number: n})
		}
		return out
	}
	if x := r.State(); !slices.Equal(x.Open, of(open)) || !slices.Equal(x.Decided, of(decided)) {
		r.t.Fatalf("P1708: State = %+v, want open %v, decided %v of the epoch %d", x, open, decided, epoch)
	}
}

// TestExamples: the chapter's, one behind the other.
func TestExamples(t *testing.T) {
	one, two := pair(t, config())
	abc := frame(3, 100, 0, 50, "abc")
	first := api.Unit{Kind: api.Data, Epoch: 2, Session: 1, Path: api.Express, Index: 0, Count: 1, Data: []byte{
		6, 7, 2, 3, 1, 3, 1, 0, 100, 0, 50, 2, 10, 2, 0, 2, 8, 0, 7, 3, 0, 1, 0, 3, 'a', 'b', 'c'}}
	one.sends(abc, 100, first)
	two.hears(first, 101, shown(abc, report(2, 1, api.Stored)))
	two.hears(first, 101, sent(report(2, 1, api.Stored)))
	one.hears(report(2, 1, api.Stored), 102, done(key(3, 0), api.Stored))
	one.holds()

	older := frame(3, 99, 1, 50, "older")
	one.sends(older, 103, slow(t, 2, older, false))
	two.hears(slow(t, 2, older, false), 103, sent(report(2, 2, api.Stored)))
	two.has(3, older, abc)

	late := frame(3, 104, 2, 5, "late")
	one.sends(late, 104, fast(t, 3, late))
	two.hears(fast(t, 3, late), 110, sent(report(2, 3, api.TooLate)))
	one.ticks(109, done(key(3, 2), api.Expired, cancel(2, 3)))
	one.holds(key(3, 1))

	one.sendsNot(7, 105, 50, 1, 109, api.ErrStream)
	one.sendsNot(3, 105, 50, 600, 109, api.ErrSize)
	if x, e := one.Cancel(key(3, 9), 109); e != api.ErrNone || !sameEffect(x, service.Effect{}) {
		t.Errorf("P1704: Cancel = %+v, %v", x, e)
	}
	if x, e := one.Hear([]byte{1, 2, 3}, 109); e != api.ErrShort || !sameEffect(x, service.Effect{}) {
		t.Errorf("P1706: Hear = %+v, %v", x, e)
	}

	one.begins(4)
	lonely := frame(4, 109, 0, 50, "x")
	one.sends(lonely, 109, fast(t, 4, lonely))
	two.hears(fast(t, 4, lonely), 110, sent(report(2, 4, api.Unheard)))
	one.hears(report(2, 4, api.Unheard), 110, done(key(4, 0), api.Unheard))

	long := frame(3, 110, 3, 500, string(make([]byte, 150)))
	block := blockOf(t, long, 1, 2, true)
	units := unitsOf(2, 5, api.Express, block, 64)
	if len(units) != 3 {
		t.Fatalf("%d units", len(units))
	}
	one.hears(report(2, 2, api.Stored), 110, done(key(3, 1), api.Stored))
	one.sends(long, 110, units...)
	two.hears(units[2], 111, service.Effect{})
	two.hears(units[0], 111, service.Effect{})
	units = unitsOf(2, 6, api.Freight, block, 64)
	one.ticks(120, sent(units...))
	two.hears(units[0], 121, sent(report(2, 6, 0, span(0, 1))))
	two.hears(units[1], 121, sent(report(2, 6, 0, span(0, 2))))
	two.hears(units[2], 121, sent(report(2, 6, api.Stored)))
	two.has(3, older, abc, long)
	one.hears(report(2, 6, 0, span(0, 2)), 122, service.Effect{})
	one.hears(report(2, 6, api.Stored), 122, done(key(3, 3), api.Stored))
	one.holds()
}

// TestOpenArguments: each that is out of its range, about its ends.
func TestOpenArguments(t *testing.T) {
	_, tb := freshTable(t, 100)
	type args struct {
		tb         *table.Table
		self, peer uint64
		want       api.Errno
	}
	for _, x := range []args{
		{nil, 1, 2, api.ErrArg}, {&table.Table{}, 1, 2, api.ErrArg}, {nil, 1, 1, api.ErrArg},
		{tb, 0, 2, api.ErrArg}, {tb, 1, 0, api.ErrArg}, {tb, 0, 0, api.ErrArg},
		{tb, top + 1, 2, api.ErrArg}, {tb, 1, top + 1, api.ErrArg}, {tb, math.MaxUint64, 2, api.ErrArg}, {tb, 1, math.MaxUint64, api.ErrArg},
		{tb, 1, 1, api.ErrArg}, {tb, top, top, api.ErrArg},
		{tb, top, 1, api.OK}, {tb, 1, top, api.OK}, {tb, top - 1, top, api.OK}, {tb, 2, 1, api.OK},
	} {
		s, y, e := service.Open(x.tb, config(), x.self, x.peer, 5)
		if e != x.want || (s != nil) != (e == api.OK) || !sameEffect(y, service.Effect{}) {
			t.Errorf("P1702: Open(%v, %d, %d) = %v, %+v, %v, want %v", x.tb != nil, x.self, x.peer, s, y, e, x.want)
		}
	}
	for i, change := range []func(c *api.Config){
		func(c *api.Config) { c.Mtu = 15 }, func(c *api.Config) { c.Mtu = 1025 },
		func(c *api.Config) { c.AckTime = 0 }, func(c *api.Config) { c.AckTime = 4097 },
		func(c *api.Config) { c.RetryTime = 0 }, func(c *api.Config) { c.RetryTime = 4097 },
		func(c *api.Config) { c.Retries = -1 }, func(c *api.Config) { c.Retries = 17 },
		func(c *api.Config) { c.Window = 0 }, func(c *api.Config) { c.Window = 9 },
		func(c *api.Config) { c.Inbox = 1 }, func(c *api.Config) { c.Inbox = 33 },
		func(c *api.Config) { *c = api.Config{} },
	} {
		c := config()
		change(&c)
		if s, _, e := service.Open(tb, c, 1, 2, 5); s != nil || e != api.ErrArg {
			t.Errorf("P1702: Open with the config %d = %v, %v", i, s, e)
		}
	}
	for _, c := range []api.Config{
		{Mtu: 16, AckTime: 1, RetryTime: 1, Retries: 0, Window: 1, Inbox: 1},
		{Mtu: 1024, AckTime: 4096, RetryTime: 4096, Retries: 16, Window: 8, Inbox: 32},
	} {
		if s, _, e := service.Open(tb, c, 1, 2, 5); s == nil || e != api.OK {
			t.Errorf("P1702: Open(%+v) = %v, %v", c, s, e)
		}
	}
}

// TestOpenErrorsInOrder: arguments, the database's, the backlog's: where one is wrong, and where several are.
func TestOpenErrorsInOrder(t *testing.T) {
	for what := range 16 {
		args, db, power, kept := what&1 != 0, what&2 != 0, what&4 != 0, what&8 != 0
		d, tb := freshTable(t, 100)
		if db {
			tb.Commit(table.Change{Key: []byte{0x64}, Value: []byte{1}})
		}
		if kept {
			tb.Commit(table.Change{Key: []byte{98}, Value: []byte{1}})
		}
		if power {
			d.Cut(0)
			tb.Flush()
		}
		c, want := config(), api.OK
		if args {
			c.Mtu = 0
		}
		switch {
		case args:
			want = api.ErrArg
		case db:
			want = api.ErrTable
		case power:
			want = api.ErrPower
		case kept:
			want = api.ErrTable
		}
		s, x, e := service.Open(tb, c, 1, 2, 5)
		if e != want || (s == nil) == (want == api.OK) || !sameEffect(x, service.Effect{}) {
			t.Errorf("P1702: Open = %v, %+v, %v, want %v (arguments %v, database %v, power %v, backlog %v)", s, x, e, want, args, db, power, kept)
		}
	}
}

// TestOpenSendsTheBacklog: in the order in which the frames came, none as the newest, as many as the window has room for.
func TestOpenSendsTheBacklog(t *testing.T) {
	one := fresh(t, small(), 1, 2, 100)
	for _, stream := range []int{5, 3} {
		one.begins(stream)
	}
	frames := []api.Frame{frame(5, 100, 0, 50, "first"), frame(3, 200, 0, 50, ""), frame(5, 90, 1, 20, "older"), frame(3, 300, 1, 0, "fourth")}
	for _, f := range frames {
		if _, _, e := one.Send(f.Stream, f.Stamp.Time, f.Life, f.Data, 100); e != api.OK {
			t.Fatalf("P1703: Send = %v", e)
		}
	}
	units := func(epoch, number uint64, i int) []api.Unit {
		return unitsOf(epoch, number, api.Freight, blockOf(t, frames[i], 1, 2, false), 16)
	}
	x := one.anew(small(), 1, 2, 130) // the life of the third one is over: that tells the next Tick
	if !sameEffect(x, sent(slices.Concat(units(3, 1, 0), units(3, 2, 1))...)) {
		t.Fatalf("P1702: Open's effect is %+v", x)
	}
	one.stands(nil, keys(key(5, 0), key(3, 0)), keys(key(5, 1), key(3, 1)), nil)
	one.goesTo(130)
	if s := one.State(); s.Epoch != 3 {
		t.Errorf("P1708: the epoch is %d", s.Epoch)
	}
	one.ticks(130, done(key(5, 1), api.Expired))
	one.hears(report(3, 2, api.TooOld), 130, done(key(3, 0), api.TooOld, units(3, 3, 3)...))

	// The next life may have another node's number, and another clock.
	x = one.anew(config(), 7, top, 5)
	want := slices.Concat(
		unitsOf(4, 1, api.Freight, blockOf(t, frames[0], 7, top, false), 64),
		unitsOf(4, 2, api.Freight, blockOf(t, frames[3], 7, top, false), 64))
	if !sameEffect(x, sent(want...)) {
		t.Fatalf("P1702: Open's effect is %+v", x)
	}
	one.goesTo(5)
}

// TestOpenOfAFullBacklog: all of its frames, a window of them at a time.
func TestOpenOfAFullBacklog(t *testing.T) {
	one := fresh(t, config(), 1, 2, 100)
	one.begins(0)
	for range api.MaxPending {
		if _, _, e := one.Send(0, 100, 50, nil, 100); e != api.OK {
			t.Fatalf("P1703: Send = %v", e)
		}
	}
	one.sendsNot(0, 100, 50, 0, 100, api.ErrFull)
	all := one.Backlog().Keys()
	if x := one.anew(config(), 1, 2, 100); len(x.Units) != 2 || len(x.Done)+len(x.Rest)+len(x.Shown) > 0 {
		t.Errorf("P1702: Open's effect is %+v", x)
	}
	one.stands(nil, all[:2], all[2:], nil)
}

// TestOpenClock: it begins with now, at most MaxNumber.
func TestOpenClock(t *testing.T) {
	for _, x := range []struct{ now, want uint64 }{{0, 0}, {1, 1}, {top - 1, top - 1}, {top, top}, {top + 1, top}, {math.MaxUint64, top}} {
		one := fresh(t, config(), 1, 2, x.now)
		one.goesTo(x.want)
	}
}

// TestSend: what it refuses is Put's, and changes nothing but the clock.
func TestSend(t *testing.T) {
	one, _ := pair(t, config())
	clock := uint64(100)
	for _, x := range []struct {
		stream     int
		time, life uint64
		bytes      int
		now        uint64
		want       api.Errno
	}{
		{-1, 105, 50, 1, 101, api.ErrArg}, {8, 105, 50, 1, 102, api.ErrArg}, {math.MinInt, 105, 50, 1, 103, api.ErrArg}, {math.MaxInt, 105, 50, 1, 104, api.ErrArg},
		{3, top + 1, 50, 1, 105, api.ErrArg}, {3, 105, top + 1, 1, 106, api.ErrArg}, {3, math.MaxUint64, math.MaxUint64, 1, 107, api.ErrArg},
		{2, 105, 50, 1, 108, api.ErrStream}, {2, 1, 1, 600, 109, api.ErrStream},
		{3, 105, 50, 513, 110, api.ErrSize}, {3, 1, 1, 513, 111, api.ErrSize},
		{3, 100, 12, 1, 112, api.ErrExpired}, {3, 0, 0, 1, 113, api.ErrExpired}, {3, 100, 13, 1, 5, api.ErrExpired}, // the last one by the clock, not by its now
	} {
		one.sendsNot(x.stream, x.time, x.life, x.bytes, x.now, x.want)
		clock = max(clock, x.now)
		one.goesTo(clock)
		one.holds()
		one.stands(nil, nil, nil, nil)
	}
	// The edges that are taken; numbers go on as if nothing had been refused.
	empty := frame(3, 114, 0, 0, "")
	one.sends(empty, 0, fast(t, 1, empty))
	most := frame(3, top, 1, top, string(make([]byte, api.MaxData)))
	block := blockOf(t, most, 1, 2, true)
	one.sends(most, 115, unitsOf(2, 2, api.Express, block, 64)...)
	same := frame(3, 114, 2, 9, "same time")
	one.sends(same, 116, slow(t, 3, same, false))
	one.stands(keys(key(3, 0), key(3, 1)), keys(key(3, 2)), nil, nil)
	one.holds(key(3, 0), key(3, 1), key(3, 2))
}

// TestNewest: of each stream by itself; the bundle says so, and it is by express for that alone.
func TestNewest(t *testing.T) {
	one, _ := pair(t, config())
	one.begins(4)
	a, b, c, d := frame(3, 200, 0, 50, "a"), frame(4, 100, 0, 50, "b"), frame(3, 199, 1, 50, "c"), frame(3, 200, 2, 50, "d")
	one.sends(a, 100, fast(t, 1, a))
	one.sends(b, 100, fast(t, 2, b))
	one.sends(c, 100, slow(t, 3, c, false))
	one.sends(d, 100, fast(t, 4, d))
	// When its time is over the block goes by freight as it was made.
	one.ticks(110, sent(slow(t, 5, a, true)))
	one.stands(nil, keys(key(3, 1), key(3, 0)), keys(key(4, 0), key(3, 2)), nil)
	// Behind a fall that frame is not newer than itself.
	one.hears(report(2, 1, api.Stored), 110, done(key(3, 0), api.Stored, slow(t, 6, b, true)))
	one.anew(config(), 1, 2, 110)
	e := frame(3, 200, 3, 50, "e")
	one.hears(report(3, 1, api.Stored), 110, done(key(4, 0), api.Stored, unitsOf(3, 3, api.Freight, blockOf(t, d, 1, 2, false), 64)...))
	one.sends(e, 111, unitsOf(3, 4, api.Express, blockOf(t, e, 1, 2, true), 64)...)
}

// TestClock: it goes on with each call, whatever becomes of it, and never back.
func TestClock(t *testing.T) {
	one, _ := pair(t, config())
	now := uint64(100)
	for _, call := range []func(now uint64){
		func(now uint64) { one.Send(3, now, 1000, nil, now) },
		func(now uint64) { one.Send(9, 0, 0, nil, now) },
		func(now uint64) { one.Cancel(key(3, 9), now) },
		func(now uint64) { one.Cancel(key(3, 0), now) },
		func(now uint64) { one.Kick(now) },
		func(now uint64) { one.Tick(now) },
		func(now uint64) { one.Hear(nil, now) },
		func(now uint64) { one.Hear(encode(t, cancel(1, 1)), now) },
		func(now uint64) { one.Hear(encode(t, report(1, 1, api.Stored)), now) },
		func(now uint64) { one.Hear(encode(t, unitsOf(1, 1, api.Express, []byte("x"), 16)[0]), now) },
	} {
		now += 3
		call(now)
		one.goesTo(now)
		call(now - 1)
		one.goesTo(now)
		call(0)
		one.goesTo(now)
	}
	one.Hear(nil, math.MaxUint64)
	one.goesTo(top)
	one.Tick(5)
	one.goesTo(top)
}

// TestTheClockCounts: a call whose now is behind the clock does what it does at the clock.
func TestTheClockCounts(t *testing.T) {
	one, two := pair(t, config())
	f := frame(3, 100, 0, 50, "abc")
	one.sends(f, 100, fast(t, 1, f))
	two.Hear(nil, 150)
	two.hears(fast(t, 1, f), 100, sent(report(2, 1, api.TooLate)))
	one.Hear(nil, 109)
	one.ticks(0, service.Effect{})
	one.Hear(nil, 110)
	one.ticks(0, sent(slow(t, 2, f, true)))
	one.Cancel(key(9, 9), 150)
	one.ticks(0, done(key(3, 0), api.Expired, cancel(2, 2)))
	// Timers begin at the clock, too.
	one.Hear(nil, 200)
	g := frame(3, 300, 1, 500, "g")
	one.sends(g, 0, fast(t, 3, g))
	one.ticks(209, service.Effect{})
	one.ticks(210, sent(slow(t, 4, g, true)))
	one.ticks(230, sent(slow(t, 4, g, true)))
	one.ticks(250, sent(slow(t, 4, g, true)))
	one.ticks(270, service.Effect{Rest: keys(key(3, 1))})
	one.Hear(nil, 300)
	one.kicks(0, slow(t, 5, g, true))
	one.ticks(319, service.Effect{})
	one.ticks(320, sent(slow(t, 5, g, true)))
	h, last := frame(3, 299, 2, 500, "h"), frame(3, 298, 3, 500, "last")
	one.sends(h, 320, slow(t, 6, h, false))
	one.sends(last, 320)
	one.Hear(nil, 330)
	one.hears(report(2, 6, api.Stored), 0, done(key(3, 2), api.Stored, slow(t, 7, last, false)))
	one.ticks(349, sent(slow(t, 5, g, true)))
	one.ticks(350, sent(slow(t, 7, last, false)))
}

// oneAtATime: a service whose window is one, without retries, that has sent the newest frame of stream 3, of time 200, and was told of it; and a frame that is older, with the next number.
func oneAtATime(t *testing.T, life uint64) (r *rig, older func(number, life uint64) api.Frame) {
	t.Helper()
	c := config()
	c.Window, c.Retries = 1, 0
	r = fresh(t, c, 1, 2, 100)
	r.begins(3)
	newest := frame(3, 200, 0, life, "newest")
	r.sends(newest, 100, fast(t, 1, newest))
	r.hears(report(2, 1, api.Stored), 100, done(key(3, 0), api.Stored))
	return r, func(number, life uint64) api.Frame { return frame(3, 100-number, number, life, "older") }
}

// TestCancel: a frame in each of the four places.
func TestCancel(t *testing.T) {
	one, older := oneAtATime(t, 50)
	newest := frame(3, 300, 1, 500, "newer still")
	one.sends(newest, 101, fast(t, 2, newest))
	one.cancels(key(3, 1), 102, cancel(2, 2))
	one.holds()
	a, b, c := older(2, 500), older(3, 500), older(4, 500)
	one.sends(a, 103, slow(t, 3, a, false))
	one.sends(b, 104)
	one.sends(c, 105)
	one.cancels(key(3, 3), 106)
	one.cancels(key(3, 2), 107, cancel(2, 3), slow(t, 4, c, false))
	one.stands(nil, keys(key(3, 4)), nil, nil)
	one.ticks(127, service.Effect{Rest: keys(key(3, 4))})
	one.stands(nil, nil, nil, keys(key(3, 4)))
	one.holds(key(3, 4))
	one.Backlog().Cease(3) // what is there stays, and can be given up
	one.cancels(key(3, 4), 128, cancel(2, 4))
	one.stands(nil, nil, nil, nil)
	one.holds()
	// It is over in the table, too.
	if x := one.anew(config(), 1, 2, 128); !sameEffect(x, service.Effect{}) {
		t.Errorf("P1704: behind all was cancelled Open sends %+v", x)
	}
}

// TestCancelOfNone: keys that there are not, or not any more.
func TestCancelOfNone(t *testing.T) {
	one, older := oneAtATime(t, 50)
	one.sends(older(1, 50), 100, slow(t, 2, older(1, 50), false))
	one.sends(older(2, 50), 100)
	one.cancels(key(3, 1), 100, cancel(2, 2), slow(t, 3, older(2, 50), false))
	for _, k := range keys(key(3, 0), key(3, 1), key(3, 3), key(2, 2), key(-1, 2), key(8, 2), key(math.MinInt, 0), key(math.MaxInt, 0), key(3, top), key(3, top+1), key(3, math.MaxUint64)) {
		if x, e := one.Cancel(k, 100); e != api.ErrNone || !sameEffect(x, service.Effect{}) {
			t.Errorf("P1704: Cancel(%v) = %+v, %v", k, x, e)
		}
		one.holds(key(3, 2))
		one.stands(nil, keys(key(3, 2)), nil, nil)
	}
}

// TestKick: what rests goes again, in the order in which it came to rest; what does not rest stays.
func TestKick(t *testing.T) {
	one, older := oneAtATime(t, 50)
	a, b := older(1, 500), older(2, 500)
	one.kicks(100)
	one.sends(a, 100, slow(t, 2, a, false))
	one.sends(b, 100)
	one.kicks(101)
	one.ticks(120, service.Effect{Units: []api.Unit{slow(t, 3, b, false)}, Rest: keys(key(3, 1))})
	one.ticks(140, service.Effect{Rest: keys(key(3, 2))})
	one.holds(key(3, 1), key(3, 2))
	one.kicks(141, slow(t, 4, a, false))
	one.stands(nil, keys(key(3, 1)), keys(key(3, 2)), nil)
	one.ticks(160, service.Effect{})
	one.ticks(161, service.Effect{Units: []api.Unit{slow(t, 5, b, false)}, Rest: keys(key(3, 1))})
	// A report of a session of before is of use still.
	one.hears(report(2, 2, api.Stored), 161, done(key(3, 1), api.Stored))
	one.kicks(162)
}

// TestTick: own lives first, each as if it were cancelled; then the database's; then the timers.
func TestTick(t *testing.T) {
	one, older := oneAtATime(t, 50)
	one.listens(5, 4, 100)
	theirs := frame(5, 100, 0, 10, "theirs")
	lasting := frame(5, 101, 1, 10, "lasting")
	for i, f := range []api.Frame{theirs, lasting} {
		n := uint64(i + 1)
		one.hears(unitsOf(9, n, api.Express, blockOf(t, f, 2, 1, true), 64)[0], 100, shown(f, report(9, n, api.Stored)))
	}
	newest := frame(3, 300, 1, 500, "newest")
	a, b, c := older(2, 12), older(3, 13), older(4, 500)
	one.sends(newest, 100, fast(t, 2, newest))
	one.sends(a, 100, slow(t, 3, a, false))
	one.sends(b, 100)
	one.sends(c, 100)
	one.ticks(109, service.Effect{})
	one.has(5, theirs, lasting)
	one.holds(key(3, 1), key(3, 2), key(3, 3), key(3, 4))
	// The second one gets under way as the first one is given up, and then it is given up itself; the time of the newest one is over.
	one.ticks(110, service.Effect{
		Units: []api.Unit{cancel(2, 3), slow(t, 4, b, false), cancel(2, 4), slow(t, 5, c, false)},
		Done:  []api.Done{{Key: key(3, 2), Code: api.Expired}, {Key: key(3, 3), Code: api.Expired}},
	})
	one.has(5, lasting)
	one.holds(key(3, 1), key(3, 4))
	one.stands(nil, keys(key(3, 4)), keys(key(3, 1)), nil)
	one.ticks(130, service.Effect{Units: []api.Unit{slow(t, 6, newest, true)}, Rest: keys(key(3, 4))})
	one.has(5)
	// By express, waiting and resting ones, in the order in which they came; at the end of time all are over.
	d, last := frame(3, 301, 5, 1, "d"), older(6, 300)
	one.sends(d, 131, fast(t, 7, d))
	one.sends(last, 131)
	one.ticks(math.MaxUint64, service.Effect{
		Units: []api.Unit{cancel(2, 6), slow(t, 8, last, false), cancel(2, 5), cancel(2, 7), cancel(2, 8)},
		Done: []api.Done{{Key: key(3, 1), Code: api.Expired}, {Key: key(3, 4), Code: api.Expired},
			{Key: key(3, 5), Code: api.Expired}, {Key: key(3, 6), Code: api.Expired}},
	})
	one.holds()
	one.stands(nil, nil, nil, nil)
	if x := one.anew(config(), 1, 2, 0); !sameEffect(x, service.Effect{}) {
		t.Errorf("P1707: behind all lives are over Open sends %+v", x)
	}
}

// TestTickSendsAgain: what is missing, so often as the config says; then it rests.
func TestTickSendsAgain(t *testing.T) {
	c := small()
	one := fresh(t, c, 1, 2, 100)
	one.begins(3)
	f := frame(3, 100, 0, 5000, "twenty bytes of data")
	block := blockOf(t, f, 1, 2, true)
	one.sends(f, 100, unitsOf(2, 1, api.Express, block, 16)...)
	units := unitsOf(2, 2, api.Freight, block, 16)
	one.ticks(110, sent(units...))
	one.hears(report(2, 2, 0, span(0, 1), span(2, 3)), 111, service.Effect{})
	one.hears(report(2, 1, 0, span(0, 2)), 111, service.Effect{}) // of the express session: that counts not
	one.ticks(130, sent(units[1]))
	one.hears(report(2, 2, 0, span(0, len(units))), 131, service.Effect{})
	one.ticks(150, sent(units[len(units)-1]))
	one.ticks(170, service.Effect{Rest: keys(key(3, 0))})
	one.kicks(171, unitsOf(2, 3, api.Freight, block, 16)...)
}

// TestReports: each code is told as it came, once; none of another epoch or of an unknown session.
func TestReports(t *testing.T) {
	for code := api.Stored; code <= api.Cancelled; code++ {
		one, older := oneAtATime(t, 50)
		a, b := older(1, 500), older(2, 500)
		one.sends(a, 100, slow(t, 2, a, false))
		one.sends(b, 100)
		for _, u := range []api.Unit{report(1, 2, code), report(3, 2, code), report(2, 1, code), report(2, 3, code), report(2, top, code), report(top, 2, code), report(2, 2, 0), report(2, 2, 0, span(0, 64))} {
			one.hears(u, 101, service.Effect{})
			one.holds(key(3, 1), key(3, 2))
		}
		one.hears(report(2, 2, code), 102, done(key(3, 1), code, slow(t, 3, b, false)))
		one.hears(report(2, 2, code), 102, service.Effect{})
		one.holds(key(3, 2))
		one.stands(nil, keys(key(3, 2)), nil, nil)
	}
}

// TestHearFaults: what is no unit's bytes is refused by name, and nothing happens.
func TestHearFaults(t *testing.T) {
	one, two := pair(t, small())
	f := frame(3, 100, 0, 50, "abc")
	one.Send(3, 100, 50, []byte("abc"), 100)
	units := unitsOf(2, 1, api.Express, blockOf(t, f, 1, 2, true), 16)
	two.hears(units[0], 100, service.Effect{})
	good := encode(t, units[1])
	seen := map[api.Errno]int{}
	refuse := func(b []byte) {
		t.Helper()
		_, want := pdu.Decode(b)
		seen[want]++
		if x, e := two.Hear(b, 100); e != want || e == api.OK || !sameEffect(x, service.Effect{}) {
			t.Errorf("P1706: Hear(%v) = %+v, %v, want %v", b, x, e, want)
		}
		two.inboxHas(2, []uint64{1}, nil)
	}
	for n := range good {
		refuse(good[:n])
		for bit := range 8 {
			b := bytes.Clone(good)
			b[n] ^= 1 << bit
			refuse(b)
		}
	}
	refuse(nil)
	refuse(append(bytes.Clone(good), 0))
	for _, b := range [][]byte{{}, {3, 1}, {3, 1, 1, 0}, {4, 1, 1}, {3, 0, 1}, {3, 0x80, 1}, {2, 1, 1, 8}, {1, 1, 1, 3, 0, 1, 1, 5}} {
		refuse(octet.Seal(b))
	}
	refuse(make([]byte, 5000))
	for _, e := range []api.Errno{api.ErrShort, api.ErrRest, api.ErrNumber, api.ErrSeal, api.ErrUnit} {
		if seen[e] == 0 {
			t.Errorf("no datagram with the fault %v", e)
		}
	}
	two.hears(units[1], 100, shown(f, report(2, 1, api.Stored)))
}

// TestHearCancel: what is put together is given up; what is decided stays so.
func TestHearCancel(t *testing.T) {
	_, two := pair(t, small())
	f, g := frame(3, 100, 0, 50, "abc"), frame(3, 101, 1, 50, "def")
	units := unitsOf(2, 1, api.Freight, blockOf(t, f, 1, 2, true), 16)
	last := len(units) - 1
	for i, u := range units[:last] {
		two.hears(u, 100, sent(report(2, 1, 0, span(0, i+1))))
	}
	for _, u := range []api.Unit{cancel(1, 1), cancel(3, 1), cancel(2, 2), cancel(top, top)} {
		two.hears(u, 100, service.Effect{})
		two.inboxHas(2, []uint64{1}, nil)
	}
	two.hears(cancel(2, 1), 100, service.Effect{})
	two.inboxHas(2, nil, nil)
	two.hears(units[last], 100, sent(report(2, 1, 0, span(last, last+1))))
	two.has(3)
	for i, u := range unitsOf(2, 2, api.Express, blockOf(t, g, 1, 2, true), 16) {
		want := service.Effect{}
		if i == last {
			want = shown(g, report(2, 2, api.Stored))
		}
		two.hears(u, 100, want)
	}
	two.hears(cancel(2, 2), 100, service.Effect{})
	two.inboxHas(2, []uint64{1}, []uint64{2})
	two.has(3, g)
}

// TestSegments: what a unit is answered hangs on its own path; one that goes not with the others, or is of an epoch that is over, is not answered.
func TestSegments(t *testing.T) {
	_, two := pair(t, small())
	f := frame(3, 100, 0, 50, "0123456789")
	block := blockOf(t, f, 1, 2, true)
	express, freight := unitsOf(5, 1, api.Express, block, 16), unitsOf(5, 1, api.Freight, block, 16)
	if len(express) != 3 {
		t.Fatalf("%d units", len(express))
	}
	two.hears(express[2], 100, service.Effect{})
	two.hears(freight[2], 100, sent(report(5, 1, 0, span(2, 3))))
	two.hears(freight[0], 100, sent(report(5, 1, 0, span(0, 1), span(2, 3))))
	two.hears(express[0], 100, service.Effect{})
	other := freight[0]
	other.Data = make([]byte, 16)
	two.hears(other, 100, service.Effect{})
	other = freight[1]
	other.Count = 4
	two.hears(other, 100, service.Effect{})
	other = freight[1]
	other.Epoch = 4
	two.hears(other, 100, service.Effect{})
	two.inboxHas(5, []uint64{1}, nil)
	two.hears(freight[1], 100, sent(report(5, 1, api.Stored))) // made whole by freight: not shown
	two.inboxHas(5, nil, []uint64{1})
	for _, u := range slices.Concat(express, freight) {
		two.hears(u, 999, sent(report(5, 1, api.Stored))) // as it was at first, though its life is over now
	}
	two.has(3, f)
	// A new epoch: what was decided is forgotten; the frame is there still.
	for _, u := range unitsOf(6, 1, api.Express, block, 16)[:2] {
		two.hears(u, 999, service.Effect{})
	}
	two.inboxHas(6, []uint64{1}, nil)
	two.hears(express[0], 999, service.Effect{})
}

// TestInboxBounds: Config's Inbox sessions are put together at a time; 256 are remembered.
func TestInboxBounds(t *testing.T) {
	_, two := pair(t, small())
	two.listens(4, 64, 9999)
	block := func(n uint64) []byte { return blockOf(t, frame(4, 100, n, 50, "x"), 1, 2, false) }
	for n := uint64(1); n <= 5; n++ {
		two.hears(unitsOf(2, n, api.Freight, block(n), 16)[0], 100, sent(report(2, n, 0, span(0, 1))))
	}
	two.inboxHas(2, []uint64{2, 3, 4, 5}, nil)
	var decided []uint64
	for n := uint64(1); n <= 300; n++ {
		u := api.Unit{Kind: api.Data, Epoch: 3, Session: n, Path: api.Freight, Index: 0, Count: 1, Data: []byte("no bundle")}
		two.hears(u, 100, sent(report(3, n, api.Unheard)))
		decided = append(decided, n)
	}
	two.inboxHas(3, nil, decided[300-256:])
}

// TestJudged: what becomes of a block, by all that can be of it.
func TestJudged(t *testing.T) {
	base := frame(3, 100, 5, 50, "abc")
	bundled := func(change func(b *bundle.Bundle)) []byte {
		b, _ := bundle.Wrap(base, 1, 2, true)
		change(&b)
		return encoded(t, b)
	}
	framed := func(change func(f *api.Frame)) []byte {
		f := base
		change(&f)
		return blockOf(t, f, 1, 2, true)
	}
	whole := bundled(func(b *bundle.Bundle) {})
	for _, x := range []struct {
		what  string
		block []byte
		code  int
		shown bool
	}{
		{"as it must be", whole, api.Stored, true},
		{"not the newest", bundled(func(b *bundle.Bundle) { b.Flags &^= bundle.Newest }), api.Stored, false},
		{"no report wanted", bundled(func(b *bundle.Bundle) { b.Flags &^= bundle.Wanted }), api.Stored, true},
		{"other blocks", bundled(func(b *bundle.Bundle) { b.Blocks = nil }), api.Stored, true},
		{"reports to another one", bundled(func(b *bundle.Bundle) { b.ReportTo = bundle.EID{Node: 9, Service: 9} }), api.Stored, true},
		{"cut off", whole[:len(whole)-1], api.Unheard, false},
		{"a byte more", append(bytes.Clone(whole), 0), api.Unheard, false},
		{"no bundle", []byte{0}, api.Unheard, false},
		{"another version", append([]byte{7}, whole[1:]...), api.Unheard, false},
		{"no frame", bundled(func(b *bundle.Bundle) { b.Flags &^= bundle.Streamed }), api.Unheard, false},
		{"two streams", bundled(func(b *bundle.Bundle) { b.Source.Service = 4 }), api.Unheard, false},
		{"no stream", bundled(func(b *bundle.Bundle) { b.Source.Service, b.Dest.Service = 8, 8 }), api.Unheard, false},
		{"for another node", bundled(func(b *bundle.Bundle) { b.Dest.Node = 3 }), api.Unheard, false},
		{"for the peer", bundled(func(b *bundle.Bundle) { b.Dest.Node = 1 }), api.Unheard, false},
		{"from another node", bundled(func(b *bundle.Bundle) { b.Source.Node = 3 }), api.Unheard, false},
		{"from itself", bundled(func(b *bundle.Bundle) { b.Source.Node = 2 }), api.Unheard, false},
		{"from nobody to nobody", bundled(func(b *bundle.Bundle) { b.Source.Node, b.Dest.Node = 0, 0 }), api.Unheard, false},
		{"a stream that nobody listens to", framed(func(f *api.Frame) { f.Stream = 4 }), api.Unheard, false},
		{"as great as may be", framed(func(f *api.Frame) { f.Data = make([]byte, 20) }), api.Stored, true},
		{"too great", framed(func(f *api.Frame) { f.Data = make([]byte, 21) }), api.TooGreat, false},
		{"without data", framed(func(f *api.Frame) { f.Data = nil }), api.Stored, true},
		{"just in time", framed(func(f *api.Frame) { f.Life = 21 }), api.Stored, true},
		{"too late", framed(func(f *api.Frame) { f.Life = 20 }), api.TooLate, false},
		{"at the floor", framed(func(f *api.Frame) { f.Stamp = api.Stamp{Time: 90, Seq: 1} }), api.TooOld, false},
		{"above the floor", framed(func(f *api.Frame) { f.Stamp = api.Stamp{Time: 90, Seq: 2} }), api.TooOld, false}, // it would roll out itself
		{"there already", framed(func(f *api.Frame) { f.Stamp = api.Stamp{Time: 91, Seq: 2} }), api.Stored, false},
		{"below what was shown", framed(func(f *api.Frame) { f.Stamp = api.Stamp{Time: 92, Seq: 2} }), api.Stored, false},
		{"above what was shown", framed(func(f *api.Frame) { f.Stamp = api.Stamp{Time: 92, Seq: 4} }), api.Stored, true},
	} {
		for _, path := range []int{api.Express, api.Freight} {
			two := fresh(t, config(), 2, 1, 120)
			two.listens(3, 2, 20)
			for _, f := range []api.Frame{frame(3, 90, 1, 500, "a"), frame(3, 91, 2, 500, "b"), frame(3, 92, 3, 500, "c")} {
				two.hears(unitsOf(2, f.Stamp.Seq, api.Express, blockOf(t, f, 1, 2, true), 1024)[0], 120, shown(f, report(2, f.Stamp.Seq, api.Stored)))
			}
			had := slices.Collect(two.DB().Frames(3))
			want := sent(report(2, 9, x.code))
			if x.shown && path == api.Express {
				b, _ := bundle.Decode(x.block)
				f, _, _, _ := bundle.Open(b)
				want.Shown = []api.Frame{f}
			}
			u := unitsOf(2, 9, path, x.block, 1024)[0]
			got, e := two.Hear(encode(t, u), 120)
			if e != api.OK || !sameEffect(got, want) {
				t.Errorf("P1706: %s, by %d: %+v, %v, want %+v", x.what, path, got, e, want)
			}
			if kept := slices.Collect(two.DB().Frames(3)); (x.code != api.Stored) != slices.EqualFunc(kept, had, sameFrame) && x.what != "there already" {
				t.Errorf("P1706: %s: the code is %d, and there are %v", x.what, x.code, kept)
			}
			// Once it is decided, it is not judged anew, whatever the unit is.
			u.Data, u.Path = []byte("other bytes"), 3-path
			two.hears(u, 9999, sent(report(2, 9, x.code)))
		}
	}
}

// TestShown: the frames that come by express as the newest, as long as their stamps rise.
func TestShown(t *testing.T) {
	_, two := pair(t, config())
	n := uint64(0)
	come := func(time uint64, path int, newest, shows bool) {
		t.Helper()
		n++
		f := frame(3, time, n, 500, "x")
		want := sent(report(2, n, api.Stored))
		if shows {
			want.Shown = []api.Frame{f}
		}
		two.hears(unitsOf(2, n, path, blockOf(t, f, 1, 2, newest), 64)[0], 100, want)
		high, some := two.DB().High(3)
		if shows != (some && high == f.Stamp) {
			t.Errorf("P1709: shown %v, and the high-water mark is %v", shows, high)
		}
	}
	come(110, api.Freight, true, false)
	come(111, api.Freight, false, false)
	come(112, api.Express, false, false)
	come(105, api.Express, true, true) // nothing was shown yet
	two.DB().Unlisten(3)
	two.listens(3, 9, 100)
	come(104, api.Express, true, false)
	come(105, api.Express, true, true) // of the same time, with a greater number
	come(107, api.Express, true, true)
	come(106, api.Express, true, false)
	come(108, api.Freight, true, false)
	come(108, api.Express, true, true)
}

// TestNoRoom: a frame for which the table has no room is neither decided nor answered, and tried again.
func TestNoRoom(t *testing.T) {
	d, tb := freshTable(t, 100) // 933 bytes of pairs
	s, _, _ := service.Open(tb, small(), 2, 1, 100)
	two := &rig{t: t, d: d, tb: tb, Service: s}
	two.listens(3, 9, 5000)
	two.listens(4, 9, 5000)
	great := string(make([]byte, 512))
	last := func(f api.Frame, number uint64, path int) api.Unit {
		units := unitsOf(2, number, path, blockOf(t, f, 1, 2, true), 16)
		for _, u := range units[:len(units)-1] {
			u.Path = api.Express
			two.hears(u, 100, service.Effect{})
		}
		return units[len(units)-1]
	}
	first, second := frame(3, 100, 0, 500, great), frame(4, 100, 0, 900, great)
	two.hears(last(first, 1, api.Express), 100, shown(first, report(2, 1, api.Stored)))
	u := last(second, 2, api.Express)
	live := tb.Live()
	for range 3 {
		two.hears(u, 101, service.Effect{})
		two.inboxHas(2, []uint64{2}, []uint64{1})
		two.has(4)
		if _, some := two.DB().High(4); some || tb.Live() != live {
			t.Error("P1706: where there was no room, something has changed")
		}
	}
	by := u
	by.Path = api.Freight
	two.hears(by, 102, service.Effect{}) // neither by freight is it answered
	two.ticks(600, service.Effect{})     // the first one is swept
	two.has(3)
	u.Index, u.Data = 0, blockOf(t, second, 1, 2, true)[:16] // any unit of it will do
	two.hears(u, 601, shown(second, report(2, 2, api.Stored)))
	two.inboxHas(2, nil, []uint64{1, 2})
	two.has(4, second)
	// Of what is sent it is told by name.
	two.begins(0)
	two.sendsNot(0, 700, 50, 512, 700, api.ErrFull)
	two.holds()
	if next := two.Backlog().Next(0); next != 0 {
		t.Errorf("P1703: the next number is %d", next)
	}
}

// TestLooks: they are the service's own, the same each time, and streams are begun and ceased, listened to and not, by them.
func TestLooks(t *testing.T) {
	one, two := pair(t, config())
	b, db := one.Backlog(), two.DB()
	f := frame(3, 100, 0, 50, "abc")
	one.sends(f, 100, fast(t, 1, f))
	two.hears(fast(t, 1, f), 100, shown(f, report(2, 1, api.Stored)))
	if one.Backlog() != b || two.DB() != db {
		t.Error("P1708: Backlog, DB are others than before")
	}
	if got, ok := b.Get(key(3, 0)); !ok || !sameFrame(got, f) {
		t.Errorf("P1708: the backlog has %v, %v", got, ok)
	}
	b.Cease(3)
	one.sendsNot(3, 101, 50, 1, 101, api.ErrStream)
	db.Unlisten(3)
	g := frame(3, 101, 1, 50, "g")
	two.hears(fast(t, 2, g), 101, sent(report(2, 2, api.Unheard)))
	want := service.State{Now: 101, Epoch: 2, Express: keys(key(3, 0))}
	if x := one.State(); x.Now != want.Now || x.Epoch != want.Epoch || !slices.Equal(x.Express, want.Express) || len(x.Freight)+len(x.Waiting)+len(x.Resting)+len(x.Open)+len(x.Decided) > 0 {
		t.Errorf("P1708: State = %+v, want %+v", x, want)
	}
	two.inboxHas(2, nil, []uint64{1, 2})
}

// TestNobodyMade: a nil service, and one that Open did not make.
func TestNobodyMade(t *testing.T) {
	b := encode(t, cancel(1, 1))
	for _, s := range []*service.Service{nil, {}, new(service.Service)} {
		k, x, e := s.Send(3, 100, 50, nil, 100)
		if k != (api.Key{}) || e != api.ErrArg || !sameEffect(x, service.Effect{}) {
			t.Errorf("P1701: Send = %v, %+v, %v", k, x, e)
		}
		for what, call := range map[string]func() (service.Effect, api.Errno){
			"Cancel": func() (service.Effect, api.Errno) { return s.Cancel(key(3, 0), 100) },
			"Kick":   func() (service.Effect, api.Errno) { return s.Kick(100) },
			"Hear":   func() (service.Effect, api.Errno) { return s.Hear(b, 100) },
			"Tick":   func() (service.Effect, api.Errno) { return s.Tick(100) },
		} {
			if x, e := call(); e != api.ErrArg || !sameEffect(x, service.Effect{}) {
				t.Errorf("P1701: %s = %+v, %v", what, x, e)
			}
		}
		y := s.State()
		if y.Now != 0 || y.Epoch != 0 || len(y.Express)+len(y.Freight)+len(y.Waiting)+len(y.Resting)+len(y.Open)+len(y.Decided) > 0 {
			t.Errorf("P1701: State = %+v", y)
		}
		if s.Backlog() != nil || s.DB() != nil {
			t.Error("P1701: Backlog or DB is not nil")
		}
	}
}
