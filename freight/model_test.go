package freight_test

import (
	"math/rand"
	"slices"
	"testing"

	"halyard/api"
	"halyard/freight"
	"halyard/pdu"
)

// plain: a sender as the chapter's sentences tell it: a list of what waits, and one of sessions in the order in which they began.
type plain struct {
	config       api.Config
	epoch, clock uint64
	row          []plainFrame
	sessions     []*plainSession
}

type plainFrame struct {
	key   api.Key
	block []byte
}

type plainSession struct {
	number uint64
	key    api.Key
	units  []api.Unit // of all its segments
	told   []bool
	again  int
	tick   uint64
}

func (p *plain) goOn(now uint64) { p.clock = max(p.clock, min(now, api.MaxNumber)) }

func (p *plain) next() uint64 { return min(p.clock+p.config.RetryTime, api.MaxNumber) }

func (p *plain) keys() (waiting, busy []api.Key) {
	for _, f := range p.row {
		waiting = append(waiting, f.key)
	}
	for _, x := range p.sessions {
		busy = append(busy, x.key)
	}
	return waiting, busy
}

func (p *plain) queue(k api.Key, block []byte) api.Errno {
	if k.Stream < 0 || k.Stream >= api.MaxStreams || k.Seq > api.MaxNumber || len(block) == 0 || len(block) > api.MaxBlock {
		return api.ErrArg
	}
	all := slices.Concat(p.keys())
	if slices.Contains(all, k) {
		return api.ErrTwice
	}
	if len(all) == api.MaxPending {
		return api.ErrFull
	}
	p.row = append(p.row, plainFrame{k, slices.Clone(block)})
	return api.OK
}

func (p *plain) run(next, now uint64) (count int, units []api.Unit) {
	if next == 0 || next > api.MaxNumber {
		return 0, nil
	}
	for _, x := range p.sessions {
		if x.number >= next {
			return 0, nil
		}
	}
	p.goOn(now)
	for len(p.row) > 0 && len(p.sessions) < p.config.Window && next <= api.MaxNumber {
		f := p.row[0]
		p.row = p.row[1:]
		l := unitsOf(p.epoch, next, f.block, p.config.Mtu)
		p.sessions = append(p.sessions, &plainSession{next, f.key, l, make([]bool, len(l)), 0, p.next()})
		units = append(units, l...)
		count++
		next++
	}
	return count, units
}

func (p *plain) over(x *plainSession) {
	p.sessions = slices.DeleteFunc(p.sessions, func(y *plainSession) bool { return y == x })
}

func (p *plain) hear(u api.Unit) (api.Done, bool) {
	if u.Kind != api.Report || pdu.Valid(u) != api.OK || u.Epoch != p.epoch {
		return api.Done{}, false
	}
	for _, x := range p.sessions {
		if x.number != u.Session {
			continue
		}
		if u.Code != 0 {
			p.over(x)
			return api.Done{Key: x.key, Code: u.Code}, true
		}
		for i := range x.told {
			x.told[i] = x.told[i] || pdu.Has(u.Got, i)
		}
	}
	return api.Done{}, false
}

func (x *plainSession) missing() (l []api.Unit) {
	for i, u := range x.units {
		if !x.told[i] {
			l = append(l, u)
		}
	}
	if len(l) == 0 {
		l = x.units[len(x.units)-1:]
	}
	return l
}

func (p *plain) tick(now uint64) (units []api.Unit, lost []api.Key) {
	p.goOn(now)
	for _, x := range slices.Clone(p.sessions) {
		switch {
		case x.tick > p.clock:
		case x.again == p.config.Retries:
			p.over(x)
			lost = append(lost, x.key)
		default:
			units = append(units, x.missing()...)
			x.again++
			x.tick = p.next()
		}
	}
	return units, lost
}

func (p *plain) stop(k api.Key) (uint64, bool) {
	for _, x := range p.sessions {
		if x.key == k {
			p.over(x)
			return x.number, true
		}
	}
	for i, f := range p.row {
		if f.key == k {
			p.row = slices.Delete(slices.Clone(p.row), i, i+1)
			return 0, true
		}
	}
	return 0, false
}

// both: a sender and the plain one, called alike.
type both struct {
	t *testing.T
	s *freight.Sender
	p *plain
}

func start(t *testing.T, c api.Config, epoch, now uint64) both {
	t.Helper()
	b := both{t, fresh(t, c, epoch, now), &plain{config: c, epoch: epoch, clock: min(now, api.MaxNumber)}}
	b.same()
	return b
}

func (b both) same() {
	b.t.Helper()
	row, under := b.p.keys()
	if got := b.s.Waiting(); !slices.Equal(got, row) {
		b.t.Fatalf("P1507: Waiting = %v, want %v", got, row)
	}
	if got := b.s.Busy(); !slices.Equal(got, under) {
		b.t.Fatalf("P1507: Busy = %v, want %v", got, under)
	}
}

func (b both) queue(k api.Key, block []byte) {
	b.t.Helper()
	got, want := b.s.Queue(k, block), b.p.queue(k, block)
	if got != want {
		b.t.Fatalf("P1503: Queue(%v, %d bytes) = %v, want %v", k, len(block), got, want)
	}
	b.same()
}

func (b both) run(next, now uint64) {
	b.t.Helper()
	n, got := b.s.Run(next, now)
	m, want := b.p.run(next, now)
	if n != m || !slices.EqualFunc(got, want, sameUnit) {
		b.t.Fatalf("P1504: Run(%d, %d) = %d, %+v, want %d, %+v", next, now, n, got, m, want)
	}
	b.same()
}

func (b both) hear(u api.Unit) {
	b.t.Helper()
	got, ok := b.s.Hear(u)
	if want, is := b.p.hear(u); got != want || ok != is {
		b.t.Fatalf("P1505: Hear(%+v) = %v, %v, want %v, %v", u, got, ok, want, is)
	}
	b.same()
}

func (b both) tick(now uint64) {
	b.t.Helper()
	got, lost := b.s.Tick(now)
	want, gone := b.p.tick(now)
	if !slices.EqualFunc(got, want, sameUnit) || !slices.Equal(lost, gone) {
		b.t.Fatalf("P1506: Tick(%d) = %+v, %v, want %+v, %v", now, got, lost, want, gone)
	}
	b.same()
}

func (b both) stop(k api.Key) {
	b.t.Helper()
	got, ok := b.s.Stop(k)
	if want, is := b.p.stop(k); got != want || ok != is {
		b.t.Fatalf("P1507: Stop(%v) = %d, %v, want %d, %v", k, got, ok, want, is)
	}
	b.same()
}

// TestEachRowOfCalls: each row of four calls behind two that wait, under windows of one and two, with and without retries, from a time in the midst and from ones about the end of time.
func TestEachRowOfCalls(t *testing.T) {
	block := text(20)
	var calls []func(b both)
	for n := uint64(1); n <= 2; n++ {
		calls = append(calls,
			func(b both) { b.queue(key(0, n), block) },
			func(b both) { b.run(n, b.p.clock+n-1) },
			func(b both) { b.hear(report(3, n, api.Stored)) },
			func(b both) { b.hear(report(3, n, 0, span(int(n)-1, int(n)))) },
			func(b both) { b.stop(key(0, n)) })
	}
	for on := range uint64(3) {
		calls = append(calls, func(b both) { b.tick(b.p.clock + on) })
	}
	var row [4]func(b both)
	var each func(n int, c api.Config, from uint64)
	each = func(n int, c api.Config, from uint64) {
		if n < len(row) {
			for _, call := range calls {
				row[n] = call
				each(n+1, c, from)
			}
			return
		}
		b := start(t, c, 3, from)
		b.queue(key(0, 2), text(16))
		b.queue(key(0, 1), block)
		b.run(1, from)
		for _, call := range row {
			call(b)
		}
		b.tick(b.p.clock + 1)
		b.run(3, 0)
		b.tick(b.p.clock + 2)
	}
	for window := 1; window <= 2; window++ {
		for retries := range 2 {
			c := with(retries, window)
			c.RetryTime = 2
			for _, from := range []uint64{62, api.MaxNumber - 2} {
				each(0, c, from)
			}
		}
	}
}

// chance: calls by chance, of a few keys and of numbers about those that are next, so that they meet.
type chance struct {
	r    *rand.Rand
	many int
	next uint64
}

func (c *chance) key() api.Key {
	if c.r.Intn(40) == 0 {
		return []api.Key{{Stream: -1}, {Stream: 8}, {Seq: api.MaxNumber}, {Seq: api.MaxNumber + 1}}[c.r.Intn(4)]
	}
	n := c.r.Intn(c.many)
	return key(n%8, uint64(n/8))
}

func (c *chance) block() []byte {
	switch c.r.Intn(8) {
	case 0:
		return text(c.r.Intn(1027))
	case 1:
		return text(16 * c.r.Intn(66))
	}
	return text(1 + c.r.Intn(70))
}

// number: of a session that may be under way.
func (c *chance) number() uint64 {
	if c.r.Intn(40) == 0 {
		return []uint64{0, api.MaxNumber, api.MaxNumber + 1, 1 << 63}[c.r.Intn(4)]
	}
	return c.next - min(c.next, uint64(c.r.Intn(10)))
}

// time: about the clock, seldom far on.
func (c *chance) time(b both) uint64 {
	switch c.r.Intn(60) {
	case 0:
		return 0
	case 1:
		return b.p.clock + uint64(c.r.Intn(1<<c.r.Intn(20)))
	case 2, 3, 4, 5, 6:
		return b.p.clock + b.p.config.RetryTime - 1 + uint64(c.r.Intn(2))
	}
	near := b.p.clock + uint64(c.r.Intn(4))
	return near - min(near, uint64(c.r.Intn(3)))
}

// told: ranges as reports have them.
func (c *chance) told() []api.Range {
	var l []api.Range
	for range c.r.Intn(5) {
		from := c.r.Intn(1 << c.r.Intn(7))
		l = append(l, span(from, min(from+1+c.r.Intn(5), api.MaxSegments)))
	}
	return pdu.Least(l)
}

func (c *chance) unit(epoch uint64) api.Unit {
	u := report(epoch, c.number(), 0, c.told()...)
	if c.r.Intn(4) == 0 {
		u.Code, u.Got = 1+c.r.Intn(7), nil
	}
	switch c.r.Intn(20) {
	case 0:
		u.Epoch += uint64(c.r.Intn(3)) - 1
	case 1:
		u.Code = c.r.Intn(10) - 1
	case 2:
		u.Kind = c.r.Intn(5)
	case 3:
		u.Got = append(u.Got, span(c.r.Intn(66)-1, c.r.Intn(66)))
	case 4:
		u.Count = c.r.Intn(2)
	}
	return u
}

func (c *chance) run(b both) {
	if c.r.Intn(10) == 0 {
		b.run(c.number(), c.time(b))
		return
	}
	b.run(c.next, c.time(b))
	if c.next < api.MaxNumber {
		c.next += 1 + uint64(c.r.Intn(9))
	}
}

func (c *chance) call(b both) {
	switch c.r.Intn(10) {
	case 0:
		b.stop(c.key())
	case 1, 2:
		b.hear(c.unit(b.p.epoch))
	case 3, 4:
		b.tick(c.time(b))
	case 5, 6:
		c.run(b)
	default:
		b.queue(c.key(), c.block())
	}
}

// TestAgainstThePlainOne: long rows of any calls, under any configs, also where times and numbers come to their ends.
func TestAgainstThePlainOne(t *testing.T) {
	for seed := range int64(400) {
		r := rand.New(rand.NewSource(seed))
		c := with(r.Intn(1+r.Intn(17)), 1+r.Intn(8))
		c.Mtu = 16 + r.Intn(1+r.Intn(1009))
		c.RetryTime = 1 + uint64(r.Intn(1+r.Intn(1+r.Intn(4096))))
		now := uint64(r.Int63n(1<<48)) >> r.Intn(48)
		if r.Intn(3) == 0 {
			now = api.MaxNumber - uint64(r.Intn(300))
		}
		b := start(t, c, 1+uint64(r.Intn(3)), now)
		x := &chance{r, 1 + r.Intn(1+r.Intn(300)), 1}
		if r.Intn(5) == 0 {
			x.next = api.MaxNumber - uint64(r.Intn(100))
		}
		for range 400 {
			x.call(b)
		}
	}
}
