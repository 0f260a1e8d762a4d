package service_test

import (
	"bytes"
	"math"
	"math/rand"
	"slices"
	"testing"

	"halyard/api"
	"halyard/bundle"
	"halyard/pdu"
	"halyard/service"
)

// both: a service and the plain one, called alike.
type both struct {
	*rig
	p *plain
}

func start(t *testing.T, sectors int, c api.Config, self, peer, now uint64) *both {
	t.Helper()
	return &both{freshOn(t, sectors, c, self, peer, now), newPlain(t, c, self, peer, now)}
}

func (b *both) same(what string, x service.Effect, e api.Errno, y service.Effect, f api.Errno) service.Effect {
	b.t.Helper()
	if e != f || !sameEffect(x, y) {
		b.t.Fatalf("%s = %+v, %v, want %+v, %v", what, x, e, y, f)
	}
	b.looks(what)
	return x
}

// looks: all that is told is the plain one's.
func (b *both) looks(what string) {
	b.t.Helper()
	s, p := b.State(), b.p
	if s.Now != p.clock || s.Epoch != p.epoch {
		b.t.Fatalf("P1708: behind %s the clock is %d, the epoch %d, want %d, %d", what, s.Now, s.Epoch, p.clock, p.epoch)
	}
	b.stands(keysOf(p.express), keysOf(p.freight), keysOf(p.waiting), keysOf(p.resting))
	if !slices.Equal(s.Open, p.sessions(p.open)) || !slices.Equal(s.Decided, p.sessions(p.decided)) {
		b.t.Fatalf("P1708: behind %s the inbox has %v, %v, want %v, %v", what, s.Open, s.Decided, p.sessions(p.open), p.sessions(p.decided))
	}
	b.holds(keysOf(p.backlog)...)
	for _, f := range p.backlog {
		if got, ok := b.Backlog().Get(f.key()); !ok || !sameFrame(got, f.Frame) {
			b.t.Fatalf("P1703: behind %s the backlog has %v, want %v", what, got, f.Frame)
		}
	}
	for stream := range p.hears {
		h := &p.hears[stream]
		b.has(stream, h.frames...)
		if high, some := b.DB().High(stream); some != (h.high != nil) || some && high != *h.high {
			b.t.Fatalf("P1709: behind %s the high-water mark of %d is %v, %v, want %v", what, stream, high, some, h.high)
		}
		if floor, some := b.DB().Floor(stream); some != (h.floor != nil) || some && floor != *h.floor {
			b.t.Fatalf("P1706: behind %s the floor of %d is %v, %v, want %v", what, stream, floor, some, h.floor)
		}
	}
}

func (b *both) send(stream int, time, life uint64, data []byte, now uint64) service.Effect {
	b.t.Helper()
	k, x, e := b.Send(stream, time, life, data, now)
	want, y, f := b.p.send(stream, time, life, data, now)
	if k != want {
		b.t.Fatalf("P1703: Send's key is %v, want %v", k, want)
	}
	return b.same("P1703: Send", x, e, y, f)
}

func (b *both) cancel(k api.Key, now uint64) service.Effect {
	b.t.Helper()
	x, e := b.Cancel(k, now)
	y, f := b.p.cancel(k, now)
	return b.same("P1704: Cancel", x, e, y, f)
}

func (b *both) kick(now uint64) service.Effect {
	b.t.Helper()
	x, e := b.Kick(now)
	y, f := b.p.kick(now)
	return b.same("P1705: Kick", x, e, y, f)
}

func (b *both) hear(d []byte, now uint64) service.Effect {
	b.t.Helper()
	x, e := b.Hear(d, now)
	y, f := b.p.hear(d, now)
	return b.same("P1706: Hear", x, e, y, f)
}

func (b *both) tick(now uint64) service.Effect {
	b.t.Helper()
	x, e := b.Tick(now)
	y, f := b.p.tick(now)
	return b.same("P1707: Tick", x, e, y, f)
}

func (b *both) anew(now uint64) service.Effect {
	b.t.Helper()
	x := b.rig.anew(b.p.config, b.p.self, b.p.peer, now)
	return b.same("P1702: Open", x, api.OK, b.p.anew(now), api.OK)
}

// open: what is done by the backlog and the database.
func (b *both) open(what, stream int, q api.Quota) {
	b.t.Helper()
	var got, want api.Errno
	switch what {
	case 0:
		got, want = b.Backlog().Begin(stream), b.p.begin(stream, true)
	case 1:
		got, want = b.Backlog().Cease(stream), b.p.begin(stream, false)
	case 2:
		got, want = b.DB().Listen(stream, q), b.p.listen(stream, q)
	default:
		got, want = b.DB().Unlisten(stream), b.p.unlisten(stream)
	}
	b.same("P1708: a stream's call", service.Effect{}, got, service.Effect{}, want)
}

// TestEachRowOfCalls: each row of three calls behind three frames that were sent and a block half of which came, under windows of one and two, with and without retries, from a time in the midst and from one near the end of time.
func TestEachRowOfCalls(t *testing.T) {
	theirs := func(time, seq uint64, newest bool) []byte {
		return blockOf(t, frame(1, time, seq, 2, "0123"), 2, 1, newest)
	}
	var calls []func(b *both)
	for n := uint64(1); n <= 3; n++ {
		calls = append(calls,
			func(b *both) { b.hear(encode(b.t, report(2, n, api.Stored)), b.p.clock+1) },
			func(b *both) { b.cancel(key(0, n-1), b.p.clock) },
			func(b *both) { b.tick(b.p.clock + n - 1) })
	}
	calls = append(calls,
		func(b *both) { b.send(0, b.p.clock+1, 1, nil, b.p.clock) },
		func(b *both) { b.send(0, b.p.clock, 2, []byte("x"), b.p.clock) },
		func(b *both) { b.hear(encode(b.t, report(2, 2, 0, span(0, 1))), b.p.clock) },
		func(b *both) { b.hear(encode(b.t, cancel(3, 1)), b.p.clock) },
		func(b *both) { b.kick(b.p.clock + 1) },
		func(b *both) { b.anew(b.p.clock) },
		func(b *both) { b.hear(nil, b.p.clock+1) })
	for _, path := range []int{api.Express, api.Freight} {
		calls = append(calls,
			func(b *both) { b.hear(encode(b.t, unitsOf(3, 1, path, theirs(b.p.began, 4, true), 16)[1]), b.p.clock) },
			func(b *both) { b.hear(encode(b.t, unitsOf(3, 2, path, theirs(b.p.began, 5, true), 64)[0]), b.p.clock) })
	}
	each := func(t *testing.T, c api.Config, from uint64) {
		rows(calls, 3, nil, func(row []func(b *both)) {
			b := start(t, 100, c, 1, 2, from)
			b.open(0, 0, api.Quota{})
			b.open(2, 1, api.Quota{Count: 1, Bytes: 9})
			b.send(0, from+2, 1, nil, from)
			b.send(0, from+1, 2, []byte("older"), from)
			b.send(0, from, 9, []byte("older still"), from)
			b.hear(encode(t, unitsOf(3, 1, api.Express, theirs(from, 4, true), 16)[0]), from)
			b.p.began = from
			for _, call := range row {
				call(b)
			}
			b.tick(b.p.clock + 2)
			b.kick(0)
		})
	}
	for _, x := range []struct {
		name            string
		window, retries int
		from            uint64
	}{
		{"without retries", 1, 0, 62},
		{"one retry", 1, 1, 62},
		{"two at a time", 2, 0, 62},
		{"at the end of time", 1, 1, top - 4},
	} {
		c := small()
		c.AckTime, c.RetryTime, c.Window, c.Retries, c.Inbox = 1, 2, x.window, x.retries, 2
		t.Run(x.name, func(t *testing.T) {
			t.Parallel()
			each(t, c, x.from)
		})
	}
}

// rows: each row of so many calls behind those that are there already.
func rows(calls []func(b *both), more int, row []func(b *both), do func(row []func(b *both))) {
	if more == 0 {
		do(row)
		return
	}
	for _, call := range calls {
		rows(calls, more-1, append(row, call), do)
	}
}

// chance: two services, what is under way between them, and calls by chance.
type chance struct {
	r    *rand.Rand
	both [2]*both
	ways [2][][]byte // away from each
	now  uint64
	life int  // of the frames, at most
	step int  // of the time, mostly
	few  bool // calls that take frames out
}

// out: what a service tells to be sent goes its way.
func (c *chance) out(i int, x service.Effect) {
	for _, u := range x.Units {
		c.ways[i] = append(c.ways[i], encode(c.both[i].t, u))
	}
}

// time: about the one that is, seldom far on.
func (c *chance) time() uint64 {
	switch c.r.Intn(80) {
	case 0:
		return 0
	case 1:
		c.now += uint64(c.r.Intn(1 << c.r.Intn(10)))
	case 2:
		return c.now + uint64(c.r.Intn(100)) - min(c.now, uint64(c.r.Intn(100)))
	}
	c.now += uint64(c.r.Intn(c.step))
	return c.now
}

func (c *chance) data() []byte {
	n := c.r.Intn(60)
	if c.r.Intn(20) == 0 {
		n = c.r.Intn(516)
	}
	b := make([]byte, n)
	c.r.Read(b)
	return b
}

func (c *chance) send(i int) {
	now := c.time()
	stream, time, life := c.r.Intn(4), now+uint64(c.r.Intn(20))-min(now, uint64(c.r.Intn(10))), uint64(c.r.Intn(c.life))
	switch c.r.Intn(40) {
	case 0:
		stream = c.r.Intn(12) - 2
	case 1:
		time = []uint64{0, top, top + 1, math.MaxUint64}[c.r.Intn(4)]
	case 2:
		life = []uint64{0, top, top + 1, math.MaxUint64}[c.r.Intn(4)]
	}
	c.out(i, c.both[i].send(stream, time, life, c.data(), now))
}

func (c *chance) cancel(i int) {
	k := key(c.r.Intn(9)-1, uint64(c.r.Intn(20)))
	if l := c.both[i].p.backlog; len(l) > 0 && c.r.Intn(5) > 0 {
		k = l[c.r.Intn(len(l))].key()
	}
	c.out(i, c.both[i].cancel(k, c.time()))
}

// deliver: one of those that are under way to a service: it may be spoilt; it may come once more.
func (c *chance) deliver(i int) {
	way := &c.ways[1-i]
	if len(*way) == 0 {
		return
	}
	n := c.r.Intn(len(*way))
	d := (*way)[n]
	if c.r.Intn(5) > 0 {
		*way = slices.Delete(*way, n, n+1)
	}
	if c.r.Intn(10) == 0 {
		d = bytes.Clone(d)
		d[c.r.Intn(len(d))] ^= byte(1 << c.r.Intn(8))
	}
	c.out(i, c.both[i].hear(d, c.time()))
}

// forge: a datagram that the other service did not send, about what it could have sent.
func (c *chance) forge(i int) {
	p, other := c.both[i].p, c.both[1-i].p
	u := api.Unit{Kind: 1 + c.r.Intn(3), Epoch: p.epoch + uint64(c.r.Intn(3)) - 1, Session: 1 + uint64(c.r.Intn(int(min(p.next, 1000))+3))}
	switch u.Kind {
	case api.Report:
		u.Code = c.r.Intn(8)
		if u.Code == 0 {
			u.Got = pdu.Least([]api.Range{span(0, c.r.Intn(5)), span(3, 3+c.r.Intn(4)), span(60, 64)})
		}
	case api.Cancel:
		u.Epoch = max(1, p.heard)
	default:
		u.Epoch = max(2, p.heard)
		switch c.r.Intn(40) {
		case 0:
			u.Epoch--
		case 1:
			u.Epoch++
		}
		f := frame(c.r.Intn(4), c.now+uint64(c.r.Intn(20)), uint64(c.r.Intn(9)), uint64(c.r.Intn(40)), "forged"[c.r.Intn(6):])
		b, _ := bundle.Wrap(f, other.self, p.self, c.r.Intn(2) == 0)
		switch c.r.Intn(8) {
		case 0:
			b.Dest.Node = uint64(c.r.Intn(4))
		case 1:
			b.Source.Node = uint64(c.r.Intn(4))
		case 2:
			b.Flags = uint64(c.r.Intn(8))
		}
		block := encoded(c.both[i].t, b)
		if c.r.Intn(8) == 0 {
			block[c.r.Intn(len(block))]++
		}
		l := unitsOf(u.Epoch, u.Session, 1+c.r.Intn(2), block, 16+c.r.Intn(64))
		u = l[c.r.Intn(len(l))]
	}
	c.out(i, c.both[i].hear(encode(c.both[i].t, u), c.time()))
}

func (c *chance) call() {
	i := c.r.Intn(2)
	b := c.both[i]
	n := c.r.Intn(200)
	if c.few && n >= 50 && c.r.Intn(3) > 0 {
		n = 0
	}
	switch {
	case n < 50:
		c.send(i)
	case n < 58:
		c.cancel(i)
	case n < 66:
		c.out(i, b.kick(c.time()))
	case n < 90:
		c.out(i, b.tick(c.time()))
	case n < 150:
		c.deliver(i)
	case n < 170:
		c.forge(i)
	case n < 188:
		if l := len(c.ways[i]); l > 0 {
			c.ways[i] = slices.Delete(c.ways[i], 0, c.r.Intn(l))
		}
	case n < 198:
		b.open(c.r.Intn(4), c.r.Intn(4), api.Quota{Count: 1 + c.r.Intn(8), Bytes: 1 + c.r.Intn(300)})
	default:
		c.out(i, b.anew(c.time()))
	}
}

// TestAgainstThePlainOne: two services that hear each other through anything, each held against the plain one in long rows of calls, under any configs, also at the end of time.
func TestAgainstThePlainOne(t *testing.T) {
	for part := range int64(8) {
		t.Run("", func(t *testing.T) {
			t.Parallel()
			for seed := part * 20; seed < part*20+20; seed++ {
				r := rand.New(rand.NewSource(seed))
				c := api.Config{Mtu: 16 + r.Intn(1+r.Intn(100)), AckTime: 1 + uint64(r.Intn(30)), RetryTime: 1 + uint64(r.Intn(30)), Retries: r.Intn(4), Window: 1 + r.Intn(8)}
				c.Inbox = c.Window + r.Intn(33-c.Window)
				now := uint64(r.Int63n(1<<48)) >> r.Intn(48)
				if r.Intn(4) == 0 {
					now = top - uint64(r.Intn(400))
				}
				x := &chance{r: r, now: now, life: 20 + r.Intn(1<<r.Intn(12)), step: 1 + r.Intn(3), few: r.Intn(3) == 0}
				x.both = [2]*both{start(t, 2000, c, 1, 2, now), start(t, 2000, c, 2, 1, now)}
				for i := range x.both {
					for stream := range 3 {
						x.both[i].open(0, stream, api.Quota{})
						x.both[i].open(2, stream, api.Quota{Count: 1 + r.Intn(1+r.Intn(30)), Bytes: 1 + r.Intn(1+r.Intn(2000))})
					}
				}
				for range 500 {
					x.call()
				}
			}
		})
	}
}
