package wheel_test

import (
	"math/rand"
	"slices"
	"testing"

	"halyard/api"
	"halyard/wheel"
)

// plain: a wheel as the chapter's sentences tell it: a list of timers in the order of their last Sets.
type plain struct {
	now    uint64
	timers []plainTimer
}

type plainTimer struct {
	id int
	at uint64
}

func count(x uint64) uint64 {
	if x > api.MaxNumber {
		return api.MaxNumber
	}
	return x
}

func (p *plain) set(id int, at uint64) {
	p.stop(id)
	at = count(at)
	if at <= p.now {
		at = p.now + 1
	}
	p.timers = append(p.timers, plainTimer{id, at})
}

func (p *plain) stop(id int) bool {
	for i, x := range p.timers {
		if x.id == id {
			p.timers = slices.Delete(p.timers, i, i+1)
			return true
		}
	}
	return false
}

func (p *plain) advance(now uint64) (rung []int) {
	now = count(now)
	if now <= p.now {
		return nil
	}
	p.now = now
	for {
		least := -1
		for i, x := range p.timers {
			if x.at <= now && (least < 0 || x.at < p.timers[least].at) {
				least = i
			}
		}
		if least < 0 {
			return rung
		}
		rung = append(rung, p.timers[least].id)
		p.timers = slices.Delete(p.timers, least, least+1)
	}
}

func (p *plain) next() (least uint64, ok bool) {
	for _, x := range p.timers {
		if x.at <= api.MaxNumber && (!ok || x.at < least) {
			least, ok = x.at, true
		}
	}
	return least, ok
}

// both: the wheel and the plain one, called alike.
type both struct {
	t *testing.T
	w *wheel.Wheel
	p *plain
}

func start(t *testing.T, now uint64) *both {
	b := &both{t, at(t, now), &plain{now: count(now)}}
	b.same("New", now)
	return b
}

// same: what can be asked of both is the same.
func (b *both) same(call string, args ...any) {
	b.t.Helper()
	n, ok := b.w.Next()
	m, is := b.p.next()
	if b.w.Now() != b.p.now || b.w.Len() != len(b.p.timers) || n != m || ok != is {
		b.t.Fatalf("P1002, P1006: behind %s %v: Now %d, Len %d, Next %d, %v; want %d, %d, %d, %v", call, args, b.w.Now(), b.w.Len(), n, ok, b.p.now, len(b.p.timers), m, is)
	}
}

func (b *both) set(id int, at uint64) {
	b.t.Helper()
	if e := b.w.Set(id, at); e != api.OK {
		b.t.Fatalf("P1003: Set(%d, %d) = %v", id, at, e)
	}
	b.p.set(id, at)
	b.same("Set", id, at)
}

func (b *both) stop(id int) {
	b.t.Helper()
	if got, want := b.w.Stop(id), b.p.stop(id); got != want {
		b.t.Fatalf("P1004: Stop(%d) = %v", id, got)
	}
	b.same("Stop", id)
}

func (b *both) advance(now uint64) {
	b.t.Helper()
	from := b.w.Now()
	if got, want := b.w.Advance(now), b.p.advance(now); !slices.Equal(got, want) {
		b.t.Fatalf("P1005: from %d Advance(%d) = %v, want %v", from, now, got, want)
	}
	b.same("Advance", now)
}

// way: how far on: mostly to about a power of two, so that each wheel and each edge between two has its turn.
func way(r *rand.Rand) uint64 {
	switch r.Intn(8) {
	case 0:
		return 0
	case 1:
		return uint64(r.Intn(4))
	case 2:
		return r.Uint64()
	case 3:
		return uint64(r.Int63n(1 << 48))
	}
	return 1<<r.Intn(49) + uint64(r.Intn(5)) - 2
}

// when: a time about now, or about a time at which many digits turn, or of a timer.
func when(r *rand.Rand, b *both, small bool) uint64 {
	now := b.p.now
	if small {
		return now + uint64(r.Intn(130)) - uint64(r.Intn(2))
	}
	switch r.Intn(6) {
	case 0:
		return way(r)
	case 1:
		k := 6 * r.Intn(8)
		return (now>>k+uint64(r.Intn(3)))<<k + uint64(r.Intn(5)) - 2
	case 2:
		if n := len(b.p.timers); n > 0 {
			return b.p.timers[r.Intn(n)].at + uint64(r.Intn(3)) - 1
		}
	}
	return now + way(r)
}

func TestLikeThePlainOne(t *testing.T) {
	for seed := range int64(3000) {
		r := rand.New(rand.NewSource(seed))
		b := start(t, way(r)>>r.Intn(50))
		ids := 1 + r.Intn(30)
		small := r.Intn(2) == 0 // else the time is soon at its end
		for range 120 {
			id := r.Intn(ids) - ids/2
			switch r.Intn(8) {
			case 0:
				b.stop(id)
			case 1, 2:
				b.advance(when(r, b, small || r.Intn(4) > 0))
			default:
				b.set(id, when(r, b, r.Intn(4) == 0))
			}
		}
		b.advance(api.MaxNumber)
	}
}

// TestEachRowOfCalls: each row of a few calls with two timers, from times ahead of edges.
func TestEachRowOfCalls(t *testing.T) {
	ways := []uint64{0, 1, 2, 64, 65, 4097}
	type call struct {
		kind int
		id   int
		on   uint64
	}
	calls := []call{{kind: 1, id: 1}, {kind: 1, id: 2}}
	for _, on := range ways {
		calls = append(calls, call{0, 1, on}, call{0, 2, on})
		if on > 0 {
			calls = append(calls, call{2, 0, on})
		}
	}
	var row [4]call
	var each func(n int, from uint64)
	each = func(n int, from uint64) {
		if n < len(row) {
			for _, c := range calls {
				row[n] = c
				each(n+1, from)
			}
			return
		}
		b := start(t, from)
		for _, c := range row {
			switch c.kind {
			case 0:
				b.set(c.id, b.p.now+c.on)
			case 1:
				b.stop(c.id)
			default:
				b.advance(b.p.now + c.on)
			}
		}
		b.advance(b.p.now + 4097)
	}
	for _, from := range []uint64{62, api.MaxNumber - 65} {
		each(0, from)
	}
}
