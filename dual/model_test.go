package dual_test

import (
	"math/rand"
	"slices"
	"testing"

	"halyard/api"
	"halyard/dual"
	"halyard/pdu"
)

// plain: an engine as the chapters' sentences tell it, without the layers below: a list of frames a place.
type plain struct {
	config             api.Config
	epoch, clock, next uint64
	express, freight   []*plainFrame
	waiting, resting   []*plainFrame
}

type plainFrame struct {
	key   api.Key
	block []byte
	had   []uint64 // its sessions
	// Of its last session, while it is under way:
	told  []bool
	again int
	tick  uint64
}

func (p *plain) goOn(now uint64) { p.clock = max(p.clock, min(now, api.MaxNumber)) }

func (p *plain) behind(ticks uint64) uint64 { return min(p.clock+ticks, api.MaxNumber) }

func (p *plain) held() []*plainFrame {
	return slices.Concat(p.express, p.freight, p.waiting, p.resting)
}

func (p *plain) find(k api.Key) *plainFrame {
	for _, f := range p.held() {
		if f.key == k {
			return f
		}
	}
	return nil
}

// begin: a session of a frame by that path: its units.
func (p *plain) begin(f *plainFrame, path int, ticks uint64) []api.Unit {
	l := unitsOf(p.epoch, p.next, path, f.block, p.config.Mtu)
	f.had = append(f.had, p.next)
	f.told, f.again, f.tick = make([]bool, len(l)), 0, p.behind(ticks)
	p.next++
	return l
}

func (p *plain) run() (l []api.Unit) {
	for len(p.waiting) > 0 && len(p.freight) < p.config.Window {
		f := p.waiting[0]
		p.waiting = p.waiting[1:]
		p.freight = append(p.freight, f)
		l = append(l, p.begin(f, api.Freight, p.config.RetryTime)...)
	}
	return l
}

func (p *plain) send(k api.Key, block []byte, newest bool, now uint64) (out dual.Out, x api.Errno) {
	switch {
	case k.Stream < 0 || k.Stream >= api.MaxStreams || k.Seq > api.MaxNumber || len(block) == 0 || len(block) > api.MaxBlock:
		return out, api.ErrArg
	case p.find(k) != nil:
		return out, api.ErrTwice
	case len(p.held()) == api.MaxPending:
		return out, api.ErrFull
	}
	p.goOn(now)
	f := &plainFrame{key: k, block: slices.Clone(block)}
	if newest {
		p.express = append(p.express, f)
		out.Units = p.begin(f, api.Express, p.config.AckTime)
		return out, api.OK
	}
	p.waiting = append(p.waiting, f)
	out.Units = p.run()
	return out, api.OK
}

// over: a frame is in none of the places any more.
func (p *plain) over(f *plainFrame) {
	for _, l := range []*[]*plainFrame{&p.express, &p.freight, &p.waiting, &p.resting} {
		var left []*plainFrame
		for _, g := range *l {
			if g != f {
				left = append(left, g)
			}
		}
		*l = left
	}
}

func (p *plain) hear(u api.Unit, now uint64) (out dual.Out) {
	if u.Kind != api.Report || pdu.Valid(u) != api.OK || u.Epoch != p.epoch {
		return out
	}
	p.goOn(now)
	if u.Code == 0 {
		for _, f := range p.freight {
			for i := range f.told {
				f.told[i] = f.told[i] || f.had[len(f.had)-1] == u.Session && pdu.Has(u.Got, i)
			}
		}
		return out
	}
	for _, f := range p.held() {
		if slices.Contains(f.had, u.Session) {
			p.over(f)
			out.Done = append(out.Done, api.Done{Key: f.key, Code: u.Code})
			out.Units = p.run() // it does nothing but where there is room
		}
	}
	return out
}

// sendAgain: the units of what a frame under way is missing.
func (p *plain) sendAgain(f *plainFrame) (l []api.Unit) {
	all := unitsOf(p.epoch, f.had[len(f.had)-1], api.Freight, f.block, p.config.Mtu)
	for i, u := range all {
		if !f.told[i] {
			l = append(l, u)
		}
	}
	if len(l) == 0 {
		l = all[len(all)-1:]
	}
	f.again++
	f.tick = p.behind(p.config.RetryTime)
	return l
}

func (p *plain) tick(now uint64) (out dual.Out) {
	p.goOn(now)
	for _, f := range slices.Clone(p.express) {
		if f.tick <= p.clock {
			p.over(f)
			p.waiting = append(p.waiting, f)
		}
	}
	for _, f := range slices.Clone(p.freight) {
		switch {
		case f.tick > p.clock:
		case f.again == p.config.Retries:
			p.over(f)
			p.resting = append(p.resting, f)
			out.Rest = append(out.Rest, f.key)
		default:
			out.Units = append(out.Units, p.sendAgain(f)...)
		}
	}
	out.Units = append(out.Units, p.run()...)
	return out
}

func (p *plain) cancel(k api.Key, now uint64) (out dual.Out, was bool) {
	f := p.find(k)
	if f == nil {
		return out, false
	}
	p.goOn(now)
	p.over(f)
	if len(f.had) > 0 {
		out.Units = append(out.Units, api.Unit{Kind: api.Cancel, Epoch: p.epoch, Session: f.had[len(f.had)-1]})
	}
	out.Units = append(out.Units, p.run()...)
	return out, true
}

func (p *plain) kick(now uint64) (out dual.Out) {
	p.goOn(now)
	p.waiting = append(p.waiting, p.resting...)
	p.resting = nil
	out.Units = p.run()
	return out
}

func keysOf(l []*plainFrame) (keys []api.Key) {
	for _, f := range l {
		keys = append(keys, f.key)
	}
	return keys
}

// both: an engine and the plain one, called alike.
type both struct {
	t *testing.T
	e *dual.Engine
	p *plain
}

func start(t *testing.T, c api.Config, epoch, now uint64) both {
	t.Helper()
	return both{t, fresh(t, c, epoch, now), &plain{config: c, epoch: epoch, clock: min(now, api.MaxNumber), next: 1}}
}

func (b both) same(what string, got, want dual.Out) {
	b.t.Helper()
	if !sameOut(got, want) {
		b.t.Fatalf("%s = %+v, want %+v", what, got, want)
	}
	stands(b.t, b.e, keysOf(b.p.express), keysOf(b.p.freight), keysOf(b.p.waiting), keysOf(b.p.resting))
}

func (b both) send(k api.Key, block []byte, newest bool, now uint64) {
	b.t.Helper()
	got, x := b.e.Send(k, block, newest, now)
	want, y := b.p.send(k, block, newest, now)
	if x != y {
		b.t.Fatalf("P1603: Send(%v, %d bytes) = %v, want %v", k, len(block), x, y)
	}
	b.same("P1603: Send", got, want)
}

func (b both) hear(u api.Unit, now uint64) {
	b.t.Helper()
	b.same("P1604: Hear", b.e.Hear(u, now), b.p.hear(u, now))
}

func (b both) tick(now uint64) {
	b.t.Helper()
	b.same("P1605: Tick", b.e.Tick(now), b.p.tick(now))
}

func (b both) cancel(k api.Key, now uint64) {
	b.t.Helper()
	got, was := b.e.Cancel(k, now)
	want, is := b.p.cancel(k, now)
	if was != is {
		b.t.Fatalf("P1606: Cancel(%v) = %v, want %v", k, was, is)
	}
	b.same("P1606: Cancel", got, want)
}

func (b both) kick(now uint64) {
	b.t.Helper()
	b.same("P1607: Kick", b.e.Kick(now), b.p.kick(now))
}

// TestEachRowOfCalls: each row of four calls behind three frames that were sent, under windows of one and two, with and without retries, from a time in the midst and from one near the end of time.
func TestEachRowOfCalls(t *testing.T) {
	block := text(20)
	var calls []func(b both)
	for n := uint64(1); n <= 3; n++ {
		calls = append(calls,
			func(b both) { b.send(key(0, n), block, n == 2, b.p.clock) },
			func(b both) { b.hear(report(n, api.Stored), b.p.clock+1) },
			func(b both) { b.cancel(key(0, n), b.p.clock) })
	}
	for on := range uint64(3) {
		calls = append(calls, func(b both) { b.tick(b.p.clock + on) })
	}
	calls = append(calls,
		func(b both) { b.hear(report(2, 0, span(0, 1)), b.p.clock) },
		func(b both) { b.hear(report(4, api.TooOld), b.p.clock) },
		func(b both) { b.kick(b.p.clock + 1) })
	each := func(t *testing.T, c api.Config, from uint64) {
		rows(calls, 4, nil, func(row []func(b both)) {
			b := start(t, c, 3, from)
			b.send(key(0, 1), block, true, from)
			b.send(key(0, 2), block, false, from)
			b.send(key(0, 3), text(16), false, from)
			for _, call := range row {
				call(b)
			}
			b.tick(b.p.clock + 2)
			b.kick(0)
		})
	}
	for _, x := range []struct {
		name            string
		window, retries int
		from            uint64
	}{
		{"without retries", 1, 0, 62},
		{"one retry", 1, 1, 62},
		{"two at a time, without retries", 2, 0, 62},
		{"two at a time, one retry", 2, 1, 62},
		{"at the end of time", 1, 1, api.MaxNumber - 3},
	} {
		c := with(x.retries, x.window)
		c.AckTime, c.RetryTime = 1, 2
		t.Run(x.name, func(t *testing.T) {
			t.Parallel()
			each(t, c, x.from)
		})
	}
}

// rows: each row of so many calls behind those that are there already.
func rows(calls []func(b both), more int, row []func(b both), do func(row []func(b both))) {
	if more == 0 {
		do(row)
		return
	}
	for _, call := range calls {
		rows(calls, more-1, append(row, call), do)
	}
}

// chance: calls by chance, of a few keys and of numbers about those that were given, so that they meet.
type chance struct {
	r    *rand.Rand
	many int
}

func (c *chance) key() api.Key {
	if c.r.Intn(40) == 0 {
		return []api.Key{{Stream: -1}, {Stream: 8}, {Seq: api.MaxNumber}, {Seq: api.MaxNumber + 1}}[c.r.Intn(4)]
	}
	n := c.r.Intn(c.many)
	return key(n%8, uint64(n/8))
}

func (c *chance) block() []byte {
	switch c.r.Intn(8) {
	case 0:
		return text(c.r.Intn(1027))
	case 1:
		return text(16 * c.r.Intn(66))
	}
	return text(1 + c.r.Intn(70))
}

// number: of a session, mostly of a frame that is held.
func (c *chance) number(b both) uint64 {
	if c.r.Intn(40) == 0 {
		return []uint64{0, api.MaxNumber, api.MaxNumber + 1, 1 << 63}[c.r.Intn(4)]
	}
	if l := b.p.held(); len(l) > 0 && c.r.Intn(3) > 0 {
		if f := l[c.r.Intn(len(l))]; len(f.had) > 0 {
			return f.had[c.r.Intn(len(f.had))]
		}
	}
	return b.p.next - min(b.p.next, uint64(c.r.Intn(20)))
}

// time: about the clock, seldom far on.
func (c *chance) time(b both) uint64 {
	switch c.r.Intn(60) {
	case 0:
		return 0
	case 1:
		return b.p.clock + uint64(c.r.Intn(1<<c.r.Intn(20)))
	case 2, 3, 4:
		return b.p.clock + b.p.config.RetryTime - 1 + uint64(c.r.Intn(2))
	case 5, 6, 7:
		return b.p.clock + b.p.config.AckTime - 1 + uint64(c.r.Intn(2))
	}
	near := b.p.clock + uint64(c.r.Intn(4))
	return near - min(near, uint64(c.r.Intn(3)))
}

// told: ranges as reports have them.
func (c *chance) told() []api.Range {
	var l []api.Range
	for range c.r.Intn(5) {
		from := c.r.Intn(1 << c.r.Intn(7))
		l = append(l, span(from, min(from+1+c.r.Intn(5), api.MaxSegments)))
	}
	return pdu.Least(l)
}

func (c *chance) unit(b both) api.Unit {
	u := report(c.number(b), 0, c.told()...)
	u.Epoch = b.p.epoch
	if c.r.Intn(3) == 0 {
		u.Code, u.Got = 1+c.r.Intn(7), nil
	}
	switch c.r.Intn(20) {
	case 0:
		u.Epoch += uint64(c.r.Intn(3)) - 1
	case 1:
		u.Code = c.r.Intn(10) - 1
	case 2:
		u.Kind = c.r.Intn(5)
	case 3:
		u.Got = append(u.Got, span(c.r.Intn(66)-1, c.r.Intn(66)))
	case 4:
		u.Count = c.r.Intn(2)
	}
	return u
}

func (c *chance) call(b both) {
	switch c.r.Intn(12) {
	case 0:
		b.cancel(c.key(), c.time(b))
	case 1, 2, 3:
		b.hear(c.unit(b), c.time(b))
	case 4, 5, 6:
		b.tick(c.time(b))
	case 7:
		b.kick(c.time(b))
	default:
		b.send(c.key(), c.block(), c.r.Intn(2) == 0, c.time(b))
	}
}

// TestAgainstThePlainOne: long rows of any calls, under any configs, also at the end of time.
func TestAgainstThePlainOne(t *testing.T) {
	for seed := range int64(400) {
		r := rand.New(rand.NewSource(seed))
		c := with(r.Intn(1+r.Intn(17)), 1+r.Intn(8))
		c.Mtu = 16 + r.Intn(1+r.Intn(1009))
		c.AckTime = 1 + uint64(r.Intn(1+r.Intn(1+r.Intn(4096))))
		c.RetryTime = 1 + uint64(r.Intn(1+r.Intn(1+r.Intn(4096))))
		now := uint64(r.Int63n(1<<48)) >> r.Intn(48)
		if r.Intn(3) == 0 {
			now = api.MaxNumber - uint64(r.Intn(300))
		}
		b := start(t, c, 1+uint64(r.Intn(3)), now)
		x := &chance{r, 1 + r.Intn(1+r.Intn(300))}
		for range 400 {
			x.call(b)
		}
	}
}
