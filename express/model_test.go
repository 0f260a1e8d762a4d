package express_test

import (
	"math/rand"
	"slices"
	"testing"

	"halyard/api"
	"halyard/express"
	"halyard/pdu"
)

// plain: a sender as the chapter's sentences tell it: a list of sessions in the order in which they began.
type plain struct {
	config       api.Config
	epoch, clock uint64
	sessions     []plainSession
}

type plainSession struct {
	number uint64
	key    api.Key
	over   uint64
}

func (p *plain) goOn(now uint64) { p.clock = max(p.clock, min(now, api.MaxNumber)) }

func (p *plain) begin(number uint64, k api.Key, block []byte, now uint64) ([]api.Unit, api.Errno) {
	if number == 0 || number > api.MaxNumber || k.Stream < 0 || k.Stream >= api.MaxStreams || k.Seq > api.MaxNumber || len(block) == 0 || len(block) > api.MaxBlock {
		return nil, api.ErrArg
	}
	for _, x := range p.sessions {
		if x.number == number || x.key == k {
			return nil, api.ErrTwice
		}
	}
	if len(p.sessions) == api.MaxPending {
		return nil, api.ErrFull
	}
	p.goOn(now)
	p.sessions = append(p.sessions, plainSession{number, k, min(p.clock+p.config.AckTime, api.MaxNumber)})
	return unitsOf(p.epoch, number, block, p.config.Mtu), api.OK
}

// end: the sessions of which that holds are over: these.
func (p *plain) end(holds func(x plainSession) bool) (ended []plainSession) {
	var left []plainSession
	for _, x := range p.sessions {
		if holds(x) {
			ended = append(ended, x)
		} else {
			left = append(left, x)
		}
	}
	p.sessions = left
	return ended
}

func (p *plain) hear(u api.Unit) (api.Done, bool) {
	if u.Kind != api.Report || pdu.Valid(u) != api.OK || u.Epoch != p.epoch || u.Code == 0 {
		return api.Done{}, false
	}
	for _, x := range p.end(func(x plainSession) bool { return x.number == u.Session }) {
		return api.Done{Key: x.key, Code: u.Code}, true
	}
	return api.Done{}, false
}

func (p *plain) tick(now uint64) (late []api.Key) {
	p.goOn(now)
	for _, x := range p.end(func(x plainSession) bool { return x.over <= p.clock }) {
		late = append(late, x.key)
	}
	return late
}

func (p *plain) stop(k api.Key) (uint64, bool) {
	for _, x := range p.end(func(x plainSession) bool { return x.key == k }) {
		return x.number, true
	}
	return 0, false
}

// both: a sender and the plain one, called alike.
type both struct {
	t *testing.T
	s *express.Sender
	p *plain
}

func start(t *testing.T, c api.Config, epoch, now uint64) both {
	t.Helper()
	b := both{t, fresh(t, c, epoch, now), &plain{config: c, epoch: epoch, clock: min(now, api.MaxNumber)}}
	b.same()
	return b
}

func (b both) same() {
	b.t.Helper()
	var want []api.Key
	for _, x := range b.p.sessions {
		want = append(want, x.key)
	}
	if got := b.s.Busy(); !slices.Equal(got, want) {
		b.t.Fatalf("P1406: Busy = %v, want %v", got, want)
	}
}

func (b both) begin(number uint64, k api.Key, block []byte, now uint64) api.Errno {
	b.t.Helper()
	got, e := b.s.Begin(number, k, block, now)
	want, f := b.p.begin(number, k, block, now)
	if e != f || !slices.EqualFunc(got, want, sameUnit) {
		b.t.Fatalf("P1403: Begin(%d, %v, %d bytes, %d) = %+v, %v, want %+v, %v", number, k, len(block), now, got, e, want, f)
	}
	b.same()
	return e
}

func (b both) hear(u api.Unit) {
	b.t.Helper()
	got, ok := b.s.Hear(u)
	if want, is := b.p.hear(u); got != want || ok != is {
		b.t.Fatalf("P1404: Hear(%+v) = %v, %v, want %v, %v", u, got, ok, want, is)
	}
	b.same()
}

func (b both) tick(now uint64) {
	b.t.Helper()
	got, want := b.s.Tick(now), b.p.tick(now)
	if !slices.Equal(got, want) {
		b.t.Fatalf("P1405: Tick(%d) = %v, want %v", now, got, want)
	}
	b.same()
}

func (b both) stop(k api.Key) {
	b.t.Helper()
	got, ok := b.s.Stop(k)
	if want, is := b.p.stop(k); got != want || ok != is {
		b.t.Fatalf("P1406: Stop(%v) = %d, %v, want %d, %v", k, got, ok, want, is)
	}
	b.same()
}

// TestEachRowOfCalls: each row of four calls with two numbers and two keys, from a time in the midst and from ones about the end of time.
func TestEachRowOfCalls(t *testing.T) {
	c := config()
	c.AckTime = 2
	ways := []uint64{0, 1, 2}
	var calls []func(b both)
	for n := uint64(1); n <= 2; n++ {
		for _, on := range ways {
			calls = append(calls, func(b both) { b.begin(n, key(0, n), []byte{1}, b.p.clock+on) })
		}
		calls = append(calls,
			func(b both) { b.begin(n, key(0, 3-n), []byte{1}, b.p.clock-1) },
			func(b both) { b.hear(report(3, n, api.Stored)) },
			func(b both) { b.stop(key(0, n)) })
	}
	for _, on := range ways {
		calls = append(calls, func(b both) { b.tick(b.p.clock + on) })
	}
	var row [4]func(b both)
	var each func(n int, from uint64)
	each = func(n int, from uint64) {
		if n < len(row) {
			for _, call := range calls {
				row[n] = call
				each(n+1, from)
			}
			return
		}
		b := start(t, c, 3, from)
		for _, call := range row {
			call(b)
		}
		b.tick(b.p.clock + 1)
		b.tick(b.p.clock + 2)
	}
	for _, from := range []uint64{62, api.MaxNumber - 3, api.MaxNumber - 1, api.MaxNumber} {
		each(0, from)
	}
}

// chance: calls by chance, of a few numbers and keys, so that they meet.
type chance struct {
	r    *rand.Rand
	many int
}

func (c *chance) number() uint64 {
	if c.r.Intn(40) == 0 {
		return []uint64{0, api.MaxNumber, api.MaxNumber + 1, 1 << 63}[c.r.Intn(4)]
	}
	return 1 + uint64(c.r.Intn(c.many))
}

func (c *chance) key() api.Key {
	if c.r.Intn(40) == 0 {
		return []api.Key{{Stream: -1}, {Stream: 8}, {Seq: api.MaxNumber}, {Seq: api.MaxNumber + 1}}[c.r.Intn(4)]
	}
	n := c.r.Intn(c.many)
	return key(n%8, uint64(n/8))
}

func (c *chance) block() []byte {
	switch c.r.Intn(8) {
	case 0:
		return text(c.r.Intn(1027))
	case 1:
		return text(16 * c.r.Intn(66))
	}
	return text(1 + c.r.Intn(3))
}

// time: about the clock, seldom far on.
func (c *chance) time(b both) uint64 {
	switch c.r.Intn(60) {
	case 0:
		return 0
	case 1:
		return b.p.clock + uint64(c.r.Intn(1<<c.r.Intn(20)))
	}
	near := b.p.clock + uint64(c.r.Intn(4))
	return near - min(near, uint64(c.r.Intn(3)))
}

func (c *chance) unit(epoch uint64) api.Unit {
	u := report(epoch, c.number(), 1+c.r.Intn(7))
	switch c.r.Intn(20) {
	case 0:
		u.Epoch += uint64(c.r.Intn(3)) - 1
	case 1:
		u.Code = c.r.Intn(10) - 1
	case 2:
		u.Kind = c.r.Intn(5)
	case 3:
		u.Code, u.Got = 0, []api.Range{{From: 0, To: 1}}
	case 4:
		u.Count = c.r.Intn(2)
	}
	return u
}

func (c *chance) call(b both) {
	switch c.r.Intn(10) {
	case 0:
		b.hear(c.unit(b.p.epoch))
	case 1:
		b.stop(c.key())
	case 2:
		b.tick(c.time(b))
	default:
		b.begin(c.number(), c.key(), c.block(), c.time(b))
	}
}

// TestAgainstThePlainOne: long rows of any calls, under any configs, also where the time comes to its end.
func TestAgainstThePlainOne(t *testing.T) {
	for seed := range int64(400) {
		r := rand.New(rand.NewSource(seed))
		c := config()
		c.Mtu = 16 + r.Intn(1+r.Intn(1009))
		c.AckTime = 1 + uint64(r.Intn(1+r.Intn(4096)))
		now := uint64(r.Int63n(1<<48)) >> r.Intn(48)
		if r.Intn(3) == 0 {
			now = api.MaxNumber - uint64(r.Intn(300))
		}
		b := start(t, c, 1+uint64(r.Intn(3)), now)
		x := &chance{r, 1 + r.Intn(1+r.Intn(300))}
		for range 300 {
			x.call(b)
		}
	}
}
