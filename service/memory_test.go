package service_test

import (
	"bytes"
	"runtime"
	"slices"
	"testing"

	"halyard/api"
	"halyard/inbox"
	"halyard/service"
)

// spoil: a list of bytes and the room behind it are written over.
func spoil(b []byte) {
	b = b[:cap(b)]
	for i := range b {
		b[i] ^= 0xff
	}
}

// spoilEffect: so is all that an effect reaches.
func spoilEffect(x service.Effect) {
	for _, u := range x.Units {
		spoil(u.Data)
		clear(u.Got[:cap(u.Got)])
	}
	for _, f := range x.Shown {
		spoil(f.Data)
	}
	clear(x.Units[:cap(x.Units)])
	clear(x.Shown[:cap(x.Shown)])
	clear(x.Done[:cap(x.Done)])
	clear(x.Rest[:cap(x.Rest)])
}

// roomy: the bytes, with room behind them that nobody else has.
func roomy(b []byte) (list, all []byte) {
	all = append(bytes.Clone(b), bytes.Repeat([]byte{0xa5}, 40)...)
	return all[:len(b)], all
}

// TestDataIsNotKept: what is sent, and the room behind it, stays as it was; what is done to it later, or to the units that were answered, changes nothing.
func TestDataIsNotKept(t *testing.T) {
	c := small()
	c.Window, c.Retries = 1, 1
	one := fresh(t, c, 1, 2, 100)
	one.begins(3)
	text := []byte("a text that has three segments or so")
	for n, time := range []uint64{200, 199, 198} { // by express, under way, waiting
		data, all := roomy(text)
		was := bytes.Clone(all)
		_, x, e := one.Send(3, time, 900, data, 100)
		if e != api.OK || !bytes.Equal(all, was) {
			t.Fatalf("P1701: Send %d = %v changed what it was given", n, e)
		}
		spoil(all)
		spoilEffect(x)
	}
	frames := []api.Frame{frame(3, 200, 0, 900, string(text)), frame(3, 199, 1, 900, string(text)), frame(3, 198, 2, 900, string(text))}
	units := func(epoch, number uint64, n int, newest bool) []api.Unit {
		return unitsOf(epoch, number, api.Freight, blockOf(t, frames[n], 1, 2, newest), 16)
	}
	for n, f := range frames {
		got, _ := one.Backlog().Get(key(3, uint64(n)))
		if !sameFrame(got, f) {
			t.Fatalf("P1701: the backlog has %v, want %v", got, f)
		}
		spoil(got.Data)
	}
	one.ticks(110, service.Effect{})
	one.ticks(120, sent(units(2, 2, 1, false)...))
	one.hears(report(2, 2, api.Stored), 121, done(key(3, 1), api.Stored, units(2, 3, 2, false)...))
	one.hears(report(2, 3, api.Stored), 121, done(key(3, 2), api.Stored, units(2, 4, 0, true)...))
	x, _ := one.Tick(141)
	if !sameEffect(x, sent(units(2, 4, 0, true)...)) {
		t.Fatalf("P1701: the units share memory: %+v", x)
	}
	spoilEffect(x)
	x, _ = one.Tick(161)
	if !sameEffect(x, service.Effect{Rest: keys(key(3, 0))}) {
		t.Fatalf("P1707: Tick = %+v", x)
	}
	spoilEffect(x)
	one.stands(nil, nil, nil, keys(key(3, 0)))
	one.kicks(162, units(2, 5, 0, true)...)
	if x := one.anew(c, 1, 2, 170); !sameEffect(x, sent(units(3, 1, 0, false)...)) {
		t.Errorf("P1701: the next life sends %+v", x)
	}
}

// TestDatagramsAreNotKept: what is heard, and the room behind it, stays as it was, and what is done to it later changes nothing; nor does what is done to an effect.
func TestDatagramsAreNotKept(t *testing.T) {
	two := fresh(t, small(), 2, 1, 100)
	two.listens(3, 9, 999)
	f := frame(3, 100, 0, 900, "a text that has three segments or so")
	units := unitsOf(2, 1, api.Freight, blockOf(t, f, 1, 2, true), 16)
	units[len(units)-1].Path = api.Express
	for i, u := range units {
		b, all := roomy(encode(t, u))
		was := bytes.Clone(all)
		x, e := two.Hear(b, 100)
		if e != api.OK || !bytes.Equal(all, was) {
			t.Fatalf("P1701: Hear = %v changed what it was given", e)
		}
		want := sent(report(2, 1, 0, span(0, i+1)))
		if i == len(units)-1 {
			want = shown(f, report(2, 1, api.Stored))
		}
		if !sameEffect(x, want) {
			t.Fatalf("P1706: Hear = %+v, want %+v", x, want)
		}
		spoil(all)
		if !sameEffect(x, want) {
			t.Fatalf("P1701: an effect shares memory with the datagram: %+v", x)
		}
		spoilEffect(x)
	}
	two.has(3, f)
	two.hears(units[0], 101, sent(report(2, 1, api.Stored)))
}

// TestUnitsShareNothing: what is done to one unit's bytes changes no other one's of that answer.
func TestUnitsShareNothing(t *testing.T) {
	one := fresh(t, small(), 1, 2, 100)
	one.begins(3)
	f := frame(3, 100, 0, 900, "a text that has three segments or so")
	_, x, _ := one.Send(3, 100, 900, f.Data, 100)
	want := unitsOf(2, 1, api.Express, blockOf(t, f, 1, 2, true), 16)
	for i := range x.Units {
		spoil(x.Units[i].Data)
		if !slices.EqualFunc(x.Units[i+1:], want[i+1:], sameUnit) {
			t.Fatalf("P1701: the units behind %d share memory with it", i)
		}
	}
}

// TestStateIsNew: what is done to an answer of State changes neither the service nor another answer, nor another list of it.
func TestStateIsNew(t *testing.T) {
	c := small()
	c.Retries = 0
	one := fresh(t, c, 1, 2, 100)
	one.begins(3)
	for _, time := range []uint64{200, 199, 198, 197, 196, 195} {
		one.Send(3, time, 900, nil, 100)
	}
	one.Tick(120) // two rest
	one.Send(3, 300, 900, nil, 120)
	one.Send(3, 301, 900, nil, 120)
	for n := range uint64(2) {
		one.Hear(encode(t, unitsOf(9, 1+n, api.Express, make([]byte, 20), 16)[0]), 120)
		one.Hear(encode(t, unitsOf(9, 3+n, api.Express, make([]byte, 10), 16)[0]), 120)
	}
	want := one.State()
	lists := func(x service.State) [][]api.Key {
		return [][]api.Key{x.Express, x.Freight, x.Waiting, x.Resting}
	}
	same := func(x service.State) bool {
		return slices.EqualFunc(lists(x), lists(want), slices.Equal) && slices.Equal(x.Open, want.Open) && slices.Equal(x.Decided, want.Decided)
	}
	for i, l := range lists(want) {
		if len(l) != 2 && i != 2 || len(want.Open) != 2 || len(want.Decided) != 2 {
			t.Fatalf("P1708: State = %+v", want)
		}
		x, y := one.State(), one.State()
		clear(lists(x)[i][:cap(l)])
		for j := range lists(x) {
			if j != i && !slices.Equal(lists(x)[j], lists(want)[j]) {
				t.Errorf("P1701: two lists of a State share memory")
			}
		}
		if !same(y) || !same(one.State()) {
			t.Errorf("P1701: two States share memory")
		}
	}
	x, y := one.State(), one.State()
	clear(x.Open[:cap(x.Open)])
	if !slices.Equal(x.Decided, want.Decided) {
		t.Error("P1701: two lists of a State share memory")
	}
	clear(x.Decided[:cap(x.Decided)])
	if !same(y) || !same(one.State()) {
		t.Error("P1701: two States share memory")
	}
}

// TestEffectsStay: an effect does not change by what is called later.
func TestEffectsStay(t *testing.T) {
	one, two := pair(t, config())
	f, g := frame(3, 100, 0, 50, "abc"), frame(3, 99, 1, 900, "def")
	_, first, _ := one.Send(3, 100, 50, f.Data, 100)
	_, second, _ := one.Send(3, 99, 900, g.Data, 100)
	heard, _ := two.Hear(encode(t, first.Units[0]), 100)
	told, _ := one.Hear(encode(t, heard.Units[0]), 100)
	again, _ := one.Tick(120)
	one.Tick(140)
	rests, _ := one.Tick(160)
	cancelled, _ := one.Cancel(key(3, 1), 161)
	for n := range uint64(20) {
		_, x, _ := one.Send(3, 200+n, 50, []byte("xyz"), 161)
		y, _ := two.Hear(encode(t, x.Units[0]), 161)
		one.Hear(encode(t, y.Units[0]), 161)
	}
	for i, x := range []struct{ got, want service.Effect }{
		{first, sent(fast(t, 1, f))}, {second, sent(slow(t, 2, g, false))},
		{heard, shown(f, report(2, 1, api.Stored))}, {told, done(key(3, 0), api.Stored)},
		{again, sent(slow(t, 2, g, false))}, {rests, service.Effect{Rest: keys(key(3, 1))}},
		{cancelled, done(key(3, 1), api.Cancelled, cancel(2, 2))},
	} {
		if !sameEffect(x.got, x.want) {
			t.Errorf("P1701: the effect %d is %+v, want %+v", i, x.got, x.want)
		}
	}
}

func heap() uint64 {
	runtime.GC()
	runtime.GC()
	var m runtime.MemStats
	runtime.ReadMemStats(&m)
	return m.HeapAlloc
}

// TestNothingMoreIsKept: however long two services hear each other, they keep no more than what is there.
func TestNothingMoreIsKept(t *testing.T) {
	one, two := pair(t, config())
	round := func(from, to uint64) {
		for n := from; n < to; n++ {
			now := n * 50
			_, x, e := one.Send(3, now+n%2*30, 40, []byte("some data"), now)
			if e != api.OK {
				t.Fatalf("P1703: Send = %v", e)
			}
			for _, u := range x.Units {
				if n%3 == 0 {
					continue // it is lost, and goes by freight
				}
				y, _ := two.Hear(encode(t, u), now)
				for _, r := range y.Units {
					one.Hear(encode(t, r), now)
				}
			}
			one.Tick(now + 10)
			two.Tick(now + 10)
			one.Hear([]byte("no unit at all"), now+11)
			if n%5 == 0 {
				one.Cancel(key(3, n), now+12)
			}
			one.Tick(now + 45)
			one.tb.Flush()
			two.tb.Flush()
		}
	}
	round(3, 603)
	before := heap()
	round(603, 8003)
	if after := heap(); after > before+1<<16 {
		t.Errorf("%d bytes are kept", after-before)
	}
	if l := two.State().Decided; len(l) != 256 || l[0] == (inbox.Session{}) {
		t.Errorf("P1708: %d sessions are remembered", len(l))
	}
	runtime.KeepAlive(one)
	runtime.KeepAlive(two)
}
