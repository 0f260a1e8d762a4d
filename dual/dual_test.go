package dual_test

import (
	"bytes"
	"math"
	"slices"
	"testing"

	"halyard/api"
	"halyard/dual"
)

func config() api.Config {
	return api.Config{Mtu: 16, AckTime: 10, RetryTime: 20, Retries: 1, Window: 1, Inbox: 8}
}

// with: the config, with so many retries and such a window.
func with(retries, window int) api.Config {
	c := config()
	c.Retries, c.Window = retries, window
	return c
}

func fresh(t *testing.T, c api.Config, epoch, now uint64) *dual.Engine {
	t.Helper()
	e, x := dual.New(c, epoch, now)
	if e == nil || x != api.OK {
		t.Fatalf("P1602: New(%+v, %d, %d) = %v, %v", c, epoch, now, e, x)
	}
	return e
}

func key(stream int, seq uint64) api.Key { return api.Key{Stream: stream, Seq: seq} }

var a, b, c, d = key(0, 1), key(0, 2), key(0, 3), key(0, 4)

func keys(l ...api.Key) []api.Key { return l }

func report(session uint64, code int, got ...api.Range) api.Unit {
	return api.Unit{Kind: api.Report, Epoch: 3, Session: session, Code: code, Got: got}
}

func span(from, to int) api.Range { return api.Range{From: from, To: to} }

// text: so many bytes, of which no two neighbouring segments are the same.
func text(n int) []byte {
	b := make([]byte, n)
	for i := range b {
		b[i] = byte(i ^ i>>3 + n)
	}
	return b
}

func sameUnit(a, b api.Unit) bool {
	return a.Kind == b.Kind && a.Epoch == b.Epoch && a.Session == b.Session && a.Path == b.Path && a.Index == b.Index && a.Count == b.Count &&
		bytes.Equal(a.Data, b.Data) && a.Code == b.Code && slices.Equal(a.Got, b.Got)
}

func sameOut(x, y dual.Out) bool {
	return slices.EqualFunc(x.Units, y.Units, sameUnit) && slices.Equal(x.Done, y.Done) && slices.Equal(x.Rest, y.Rest)
}

// unitsOf: a session's units of all its segments, as the chapters say it.
func unitsOf(epoch, number uint64, path int, block []byte, mtu int) (l []api.Unit) {
	count := (len(block) + mtu - 1) / mtu
	for i := range count {
		l = append(l, api.Unit{Kind: api.Data, Epoch: epoch, Session: number, Path: path, Index: i, Count: count, Data: block[i*mtu : min(i*mtu+mtu, len(block))]})
	}
	return l
}

// one: the block of most tests, of one segment; fast and slow: the unit of a session that brings it, by either way.
func one() []byte { return []byte("one") }

func fast(number uint64) api.Unit { return unitsOf(3, number, api.Express, one(), 16)[0] }

func slow(number uint64) api.Unit { return unitsOf(3, number, api.Freight, one(), 16)[0] }

func cancel(number uint64) api.Unit { return api.Unit{Kind: api.Cancel, Epoch: 3, Session: number} }

func sent(l ...api.Unit) dual.Out { return dual.Out{Units: l} }

// done: what became of a frame, and what is sent with it.
func done(k api.Key, code int, l ...api.Unit) dual.Out {
	return dual.Out{Units: l, Done: []api.Done{{Key: k, Code: code}}}
}

func rests(l ...api.Key) dual.Out { return dual.Out{Rest: l} }

func sends(t *testing.T, e *dual.Engine, k api.Key, newest bool, now uint64, want ...api.Unit) {
	t.Helper()
	out, x := e.Send(k, one(), newest, now)
	if x != api.OK || !sameOut(out, sent(want...)) {
		t.Fatalf("P1603: Send(%v, %v, %d) = %+v, %v, want %+v", k, newest, now, out, x, want)
	}
}

func refuses(t *testing.T, e *dual.Engine, k api.Key, block []byte, newest bool, now uint64, want api.Errno) {
	t.Helper()
	if out, x := e.Send(k, block, newest, now); x != want || !sameOut(out, dual.Out{}) {
		t.Fatalf("P1603: Send(%v, %d bytes, %v) = %+v, %v, want %v", k, len(block), newest, out, x, want)
	}
}

func hears(t *testing.T, e *dual.Engine, u api.Unit, now uint64, want dual.Out) {
	t.Helper()
	if out := e.Hear(u, now); !sameOut(out, want) {
		t.Fatalf("P1604: Hear(%+v, %d) = %+v, want %+v", u, now, out, want)
	}
}

func ticks(t *testing.T, e *dual.Engine, now uint64, want dual.Out) {
	t.Helper()
	if out := e.Tick(now); !sameOut(out, want) {
		t.Fatalf("P1605: Tick(%d) = %+v, want %+v", now, out, want)
	}
}

func cancels(t *testing.T, e *dual.Engine, k api.Key, now uint64, want ...api.Unit) {
	t.Helper()
	if out, ok := e.Cancel(k, now); !ok || !sameOut(out, sent(want...)) {
		t.Fatalf("P1606: Cancel(%v, %d) = %+v, %v, want %+v", k, now, out, ok, want)
	}
}

func cancelsNot(t *testing.T, e *dual.Engine, k api.Key, now uint64) {
	t.Helper()
	if out, ok := e.Cancel(k, now); ok || !sameOut(out, dual.Out{}) {
		t.Fatalf("P1606: Cancel(%v, %d) = %+v, %v", k, now, out, ok)
	}
}

func kicks(t *testing.T, e *dual.Engine, now uint64, want ...api.Unit) {
	t.Helper()
	if out := e.Kick(now); !sameOut(out, sent(want...)) {
		t.Fatalf("P1607: Kick(%d) = %+v, want %+v", now, out, want)
	}
}

func stands(t *testing.T, e *dual.Engine, express, freight, waiting, resting []api.Key) {
	t.Helper()
	w, x, y, z := e.State()
	if !slices.Equal(w, express) || !slices.Equal(x, freight) || !slices.Equal(y, waiting) || !slices.Equal(z, resting) {
		t.Fatalf("P1608: State = %v, %v, %v, %v, want %v, %v, %v, %v", w, x, y, z, express, freight, waiting, resting)
	}
}

// TestExamples: the chapter's, in their order, on one engine.
func TestExamples(t *testing.T) {
	e := fresh(t, config(), 3, 100)
	sends(t, e, a, true, 100, fast(1))
	sends(t, e, b, false, 100, slow(2))
	sends(t, e, c, false, 101)
	stands(t, e, keys(a), keys(b), keys(c), nil)

	ticks(t, e, 110, dual.Out{})
	stands(t, e, nil, keys(b), keys(c, a), nil)
	hears(t, e, report(2, api.Stored), 111, done(b, api.Stored, slow(3)))

	hears(t, e, report(1, api.Stored), 112, done(a, api.Stored))
	hears(t, e, report(1, api.Stored), 113, dual.Out{})

	ticks(t, e, 130, dual.Out{})
	ticks(t, e, 131, sent(slow(3)))
	ticks(t, e, 150, dual.Out{})
	ticks(t, e, 151, rests(c))
	stands(t, e, nil, nil, nil, keys(c))
	kicks(t, e, 160, slow(4))
	hears(t, e, report(3, api.Unheard), 161, done(c, api.Unheard))

	cancelsNot(t, e, a, 165)
	sends(t, e, a, true, 170, fast(5))
	cancels(t, e, a, 171, cancel(5))
	sends(t, e, b, false, 172, slow(6))
	sends(t, e, c, false, 173)
	cancels(t, e, c, 174)
	cancels(t, e, b, 175, cancel(6))
	stands(t, e, nil, nil, nil, nil)

	sends(t, e, a, false, 176, slow(7))
	refuses(t, e, a, one(), true, 176, api.ErrTwice)
	for n := range uint64(63) {
		sends(t, e, key(1, n), false, 176)
	}
	refuses(t, e, key(2, 0), one(), false, 176, api.ErrFull)
	refuses(t, e, key(2, 0), nil, false, 176, api.ErrArg)
}

// TestNew: configs with one fault each, epochs about their ends.
func TestNew(t *testing.T) {
	for _, epoch := range []uint64{0, 1, 2, api.MaxNumber - 1, api.MaxNumber, api.MaxNumber + 1, math.MaxUint64} {
		e, x := dual.New(config(), epoch, 5)
		if good := epoch >= 1 && epoch <= api.MaxNumber; good != (x == api.OK) || good != (e != nil) || !good && x != api.ErrArg {
			t.Errorf("P1602: New of the epoch %d = %v, %v", epoch, e, x)
		}
	}
	for i, change := range []func(c *api.Config){
		func(c *api.Config) { c.Mtu = 15 }, func(c *api.Config) { c.Mtu = 1025 }, func(c *api.Config) { c.Mtu = -16 },
		func(c *api.Config) { c.AckTime = 0 }, func(c *api.Config) { c.AckTime = 4097 }, func(c *api.Config) { c.AckTime = math.MaxUint64 },
		func(c *api.Config) { c.RetryTime = 0 }, func(c *api.Config) { c.RetryTime = 4097 }, func(c *api.Config) { c.RetryTime = math.MaxUint64 },
		func(c *api.Config) { c.Retries = -1 }, func(c *api.Config) { c.Retries = 17 },
		func(c *api.Config) { c.Window = 0 }, func(c *api.Config) { c.Window, c.Inbox = 9, 9 },
		func(c *api.Config) { c.Inbox = 0 }, func(c *api.Config) { c.Inbox = 33 },
		func(c *api.Config) { *c = api.Config{} },
	} {
		c := config()
		change(&c)
		if e, x := dual.New(c, 3, 5); e != nil || x != api.ErrArg {
			t.Errorf("P1602: New of the config %d = %v, %v", i, e, x)
		}
	}
	for _, epoch := range []uint64{1, api.MaxNumber} { // the epoch is that of all units
		e := fresh(t, config(), epoch, 5)
		stands(t, e, nil, nil, nil, nil)
		x, _ := e.Send(a, one(), true, 5)
		y, _ := e.Send(b, one(), false, 5)
		z, _ := e.Cancel(a, 5)
		for _, u := range slices.Concat(x.Units, y.Units, z.Units) {
			if u.Epoch != epoch {
				t.Errorf("P1602: a unit of the epoch %d, want %d", u.Epoch, epoch)
			}
		}
	}
}

// TestNoEngine: of a nil one and of one that New did not make.
func TestNoEngine(t *testing.T) {
	var none *dual.Engine
	for _, e := range []*dual.Engine{none, {}, new(dual.Engine)} {
		for range 2 {
			refuses(t, e, a, one(), true, 1, api.ErrArg)
			refuses(t, e, a, one(), false, math.MaxUint64, api.ErrArg)
			hears(t, e, report(1, api.Stored), 1, dual.Out{})
			hears(t, e, report(1, 0, span(0, 1)), 1, dual.Out{})
			hears(t, e, api.Unit{}, 1, dual.Out{})
			ticks(t, e, 1, dual.Out{})
			ticks(t, e, math.MaxUint64, dual.Out{})
			cancelsNot(t, e, a, 1)
			kicks(t, e, 1)
			stands(t, e, nil, nil, nil, nil)
		}
	}
}

// TestSendRefuses: each wrong argument by either way, errors in their order, and nothing has changed.
func TestSendRefuses(t *testing.T) {
	for _, newest := range []bool{true, false} {
		e := fresh(t, config(), 3, 100)
		for _, k := range keys(key(-1, 0), key(8, 0), key(math.MinInt, 0), key(math.MaxInt, 0), key(0, api.MaxNumber+1), key(0, math.MaxUint64)) {
			refuses(t, e, k, one(), newest, 500, api.ErrArg)
			cancelsNot(t, e, k, 500)
		}
		for _, block := range [][]byte{nil, {}, text(1025), text(5000)} {
			refuses(t, e, a, block, newest, 500, api.ErrArg)
		}
		stands(t, e, nil, nil, nil, nil)
		sends(t, e, a, true, 100, fast(1)) // the number 1, at the clock 100
		refuses(t, e, a, one(), newest, 500, api.ErrTwice)
		refuses(t, e, a, nil, newest, 500, api.ErrArg)
		ticks(t, e, 109, dual.Out{})
		ticks(t, e, 110, sent(slow(2)))
		for n := range uint64(63) {
			sends(t, e, key(1, n), false, 110)
		}
		refuses(t, e, b, one(), newest, 500, api.ErrFull)
		refuses(t, e, a, one(), newest, 500, api.ErrTwice)
		refuses(t, e, key(1, 7), one(), newest, 500, api.ErrTwice)
		refuses(t, e, b, text(1025), newest, 500, api.ErrArg)
		refuses(t, e, key(8, 0), one(), newest, 500, api.ErrArg)
		ticks(t, e, 129, dual.Out{})
		ticks(t, e, 130, sent(slow(2)))
	}
}

// TestHeldIsTwice: a key that is held is refused, in whichever of the places it is.
func TestHeldIsTwice(t *testing.T) {
	e := fresh(t, with(0, 1), 3, 100)
	sends(t, e, d, false, 100, slow(1))
	sends(t, e, a, true, 115, fast(2))
	ticks(t, e, 120, rests(d))
	sends(t, e, b, false, 120, slow(3))
	sends(t, e, c, false, 120)
	stands(t, e, keys(a), keys(b), keys(c), keys(d))
	for _, k := range keys(a, b, c, d) {
		refuses(t, e, k, one(), true, 120, api.ErrTwice)
		refuses(t, e, k, one(), false, 120, api.ErrTwice)
	}
	stands(t, e, keys(a), keys(b), keys(c), keys(d))
}

// TestEdgesOfSend: keys and blocks at the ends of what is good.
func TestEdgesOfSend(t *testing.T) {
	for _, mtu := range []int{16, 17, 512, 1024} {
		for _, k := range keys(key(0, 0), key(7, 0), key(0, api.MaxNumber), key(7, api.MaxNumber)) {
			for _, n := range []int{1, 15, 16, 17, 1023, 1024} {
				c := config()
				c.Mtu = mtu
				e := fresh(t, c, 3, 100)
				other := key(1, 1)
				x, err := e.Send(k, text(n), true, 100)
				if err != api.OK || !sameOut(x, sent(unitsOf(3, 1, api.Express, text(n), mtu)...)) {
					t.Fatalf("P1603: Send(%v, %d bytes) = %+v, %v", k, n, x, err)
				}
				x, err = e.Send(other, text(n), false, 100)
				if err != api.OK || !sameOut(x, sent(unitsOf(3, 2, api.Freight, text(n), mtu)...)) {
					t.Fatalf("P1603: Send(%v, %d bytes) = %+v, %v", other, n, x, err)
				}
				cancels(t, e, other, 100, cancel(2))
				ticks(t, e, 110, sent(unitsOf(3, 3, api.Freight, text(n), mtu)...))
			}
		}
	}
}

// TestFullCountsAllPlaces: 64 frames are held, wherever they are, and each that is over makes room for one.
func TestFullCountsAllPlaces(t *testing.T) {
	e := fresh(t, with(0, 8), 3, 100)
	for n := range uint64(16) {
		e.Send(key(0, n), one(), false, 100)
	}
	e.Tick(120) // eight rest, eight are under way
	for n := range uint64(16) {
		e.Send(key(1, n), one(), false, 120)
		e.Send(key(2, n), one(), true, 120)
		e.Send(key(3, n), one(), n%2 == 0, 120)
	}
	fast, slow, row, rest := e.State()
	if len(fast) != 24 || len(slow) != 8 || len(row) != 24 || len(rest) != 8 {
		t.Fatalf("P1603: State = %v, %v, %v, %v", fast, slow, row, rest)
	}
	for i, k := range keys(fast[3], slow[3], row[3], rest[3]) {
		refuses(t, e, key(5, 1), one(), true, 120, api.ErrFull)
		refuses(t, e, key(5, 1), one(), false, 120, api.ErrFull)
		if _, ok := e.Cancel(k, 120); !ok {
			t.Fatalf("P1606: Cancel(%v) = false", k)
		}
		if _, x := e.Send(key(4, uint64(i)), one(), i%2 == 0, 120); x != api.OK {
			t.Fatalf("P1603: Send where one is over = %v", x)
		}
	}
	refuses(t, e, key(5, 1), one(), true, 120, api.ErrFull)
}

// TestReportsThatAreNone: nothing happens, and the clock stays.
func TestReportsThatAreNone(t *testing.T) {
	e := fresh(t, with(3, 2), 3, 100)
	sends(t, e, a, true, 100, fast(1))
	sends(t, e, b, false, 100, slow(2))
	for i, change := range []func(u *api.Unit){
		func(u *api.Unit) { u.Epoch = 2 }, func(u *api.Unit) { u.Epoch = 4 }, func(u *api.Unit) { u.Epoch = 0 }, func(u *api.Unit) { u.Epoch = math.MaxUint64 },
		func(u *api.Unit) { u.Kind = 0 }, func(u *api.Unit) { u.Kind = api.Data }, func(u *api.Unit) { u.Kind = api.Cancel }, func(u *api.Unit) { u.Kind = 4 },
		func(u *api.Unit) { u.Kind, u.Code = api.Cancel, 0 },
		func(u *api.Unit) { *u = fast(u.Session) },
		func(u *api.Unit) { u.Code = -1 }, func(u *api.Unit) { u.Code = 8 }, func(u *api.Unit) { u.Code = math.MaxInt },
		func(u *api.Unit) { u.Got = []api.Range{span(0, 1)} }, func(u *api.Unit) { u.Path = api.Freight },
		func(u *api.Unit) { u.Index = 1 }, func(u *api.Unit) { u.Count = 1 }, func(u *api.Unit) { u.Data = one() },
		func(u *api.Unit) { u.Code, u.Got = 0, []api.Range{span(1, 1)} }, func(u *api.Unit) { u.Code, u.Got = 0, []api.Range{span(0, 65)} },
		func(u *api.Unit) { u.Code, u.Got = 0, []api.Range{span(0, 1), span(1, 2)} },
		func(u *api.Unit) { u.Session = 0 }, func(u *api.Unit) { u.Session = api.MaxNumber + 1 },
		func(u *api.Unit) { *u = api.Unit{} },
	} {
		for n := uint64(1); n <= 2; n++ {
			u := report(n, api.Stored)
			change(&u)
			if out := e.Hear(u, 5000); !sameOut(out, dual.Out{}) {
				t.Errorf("P1604: Hear of the fault %d = %+v", i, out)
			}
			stands(t, e, keys(a), keys(b), nil, nil)
		}
	}
	ticks(t, e, 109, dual.Out{})
	ticks(t, e, 110, sent(slow(3)))
	ticks(t, e, 120, sent(slow(2)))
}

// TestEachCodeInEachPlace: a report with any code, of any session that a frame had, ends it wherever it is, once.
func TestEachCodeInEachPlace(t *testing.T) {
	for code := 1; code <= api.Cancelled; code++ {
		// By express.
		e := fresh(t, config(), 3, 100)
		sends(t, e, a, true, 100, fast(1))
		sends(t, e, b, false, 100, slow(2))
		sends(t, e, c, false, 100)
		hears(t, e, report(1, code), 101, done(a, code))
		hears(t, e, report(1, code), 101, dual.Out{})
		stands(t, e, nil, keys(b), keys(c), nil)
		ticks(t, e, 110, dual.Out{}) // its time is over, and it is not told
		stands(t, e, nil, keys(b), keys(c), nil)
		// Under way, with one that waits: that one goes.
		hears(t, e, report(2, code), 110, done(b, code, slow(3)))
		hears(t, e, report(2, code), 110, dual.Out{})
		stands(t, e, nil, keys(c), nil, nil)
		// Under way, and none waits.
		hears(t, e, report(3, code), 110, done(c, code))
		stands(t, e, nil, nil, nil, nil)
		ticks(t, e, 5000, dual.Out{})
		kicks(t, e, 5000)

		// Waiting, by the session of express that it had.
		e = fresh(t, config(), 3, 100)
		sends(t, e, a, true, 100, fast(1))
		sends(t, e, b, false, 100, slow(2))
		ticks(t, e, 110, dual.Out{})
		sends(t, e, c, false, 110)
		hears(t, e, report(1, code), 111, done(a, code))
		stands(t, e, nil, keys(b), keys(c), nil)

		// Under way, by the session of express that it had: the next one goes.
		e = fresh(t, config(), 3, 100)
		sends(t, e, a, true, 100, fast(1))
		ticks(t, e, 110, sent(slow(2)))
		sends(t, e, b, false, 110)
		hears(t, e, report(1, code), 111, done(a, code, slow(3)))
		hears(t, e, report(2, code), 111, dual.Out{})
		stands(t, e, nil, keys(b), nil, nil)

		// Resting, by each of the sessions that it had.
		for n := uint64(1); n <= 2; n++ {
			e = fresh(t, with(0, 1), 3, 100)
			sends(t, e, a, true, 100, fast(1))
			ticks(t, e, 110, sent(slow(2)))
			ticks(t, e, 130, rests(a))
			hears(t, e, report(n, code), 131, done(a, code))
			hears(t, e, report(3-n, code), 131, dual.Out{})
			stands(t, e, nil, nil, nil, nil)
			kicks(t, e, 132)
		}
	}
}

// TestSessionsOfAnother: a number that was not given yet, or whose frame is over, ends nothing, though the key was sent anew.
func TestSessionsOfAnother(t *testing.T) {
	e := fresh(t, config(), 3, 100)
	hears(t, e, report(1, api.Stored), 100, dual.Out{})
	sends(t, e, a, true, 100, fast(1))
	hears(t, e, report(2, api.Stored), 100, dual.Out{})
	hears(t, e, report(api.MaxNumber, api.Stored), 100, dual.Out{})
	cancels(t, e, a, 100, cancel(1))
	sends(t, e, a, true, 100, fast(2))
	hears(t, e, report(1, api.Stored), 101, dual.Out{})
	stands(t, e, keys(a), nil, nil, nil)
	hears(t, e, report(2, api.TooOld), 101, done(a, api.TooOld))
	sends(t, e, a, false, 101, slow(3))
	hears(t, e, report(1, api.Stored), 101, dual.Out{})
	hears(t, e, report(2, api.Stored), 101, dual.Out{})
	stands(t, e, nil, keys(a), nil, nil)
	hears(t, e, report(3, api.Stored), 101, done(a, api.Stored))
}

// TestRanges: a report without a code is heard by the session of freight that is under way, and by no other one.
func TestRanges(t *testing.T) {
	e := fresh(t, with(1, 1), 3, 100)
	block := text(40)
	e.Send(a, block, true, 100)
	hears(t, e, report(1, 0, span(0, 3)), 101, dual.Out{}) // by express
	stands(t, e, keys(a), nil, nil, nil)
	hears(t, e, report(2, 0, span(0, 3)), 101, dual.Out{}) // of no session yet
	all := unitsOf(3, 2, api.Freight, block, 16)
	ticks(t, e, 110, sent(all...))
	hears(t, e, report(1, 0, span(0, 3)), 111, dual.Out{}) // over, though of the same frame
	hears(t, e, report(2, 0, span(1, 2)), 111, dual.Out{})
	ticks(t, e, 129, dual.Out{})
	ticks(t, e, 130, sent(all[0], all[2]))
	ticks(t, e, 150, rests(a))
	hears(t, e, report(2, 0, span(0, 3)), 151, dual.Out{}) // it rests
	all = unitsOf(3, 3, api.Freight, block, 16)
	kicks(t, e, 160, all...) // from the beginning: what was told was of another session
	hears(t, e, report(3, 0, span(0, 64)), 161, dual.Out{})
	ticks(t, e, 180, sent(all[2]))
	hears(t, e, report(3, 0), 181, dual.Out{})
	hears(t, e, report(3, api.Stored), 181, done(a, api.Stored))
}

// TestTheClock: which calls move it on, and which do not; it never goes back, and ends at MaxNumber.
func TestTheClock(t *testing.T) {
	for name, call := range map[string]struct {
		moves bool
		do    func(e *dual.Engine, now uint64)
	}{
		"Tick":                               {true, func(e *dual.Engine, now uint64) { e.Tick(now) }},
		"Kick":                               {true, func(e *dual.Engine, now uint64) { e.Kick(now) }},
		"Send, newest":                       {true, func(e *dual.Engine, now uint64) { e.Send(d, one(), true, now) }},
		"Send, one that goes":                {true, func(e *dual.Engine, now uint64) { e.Send(d, one(), false, now) }},
		"Send, one that waits":               {true, func(e *dual.Engine, now uint64) { e.Send(a, one(), false, 0); e.Send(d, one(), false, now) }},
		"Send, refused":                      {false, func(e *dual.Engine, now uint64) { e.Send(d, nil, false, now) }},
		"Send, twice":                        {false, func(e *dual.Engine, now uint64) { e.Send(a, one(), false, 0); e.Send(a, one(), true, now) }},
		"Cancel":                             {true, func(e *dual.Engine, now uint64) { e.Send(d, one(), true, 0); e.Cancel(d, now) }},
		"Cancel of none":                     {false, func(e *dual.Engine, now uint64) { e.Cancel(d, now) }},
		"Hear":                               {true, func(e *dual.Engine, now uint64) { e.Send(d, one(), true, 0); e.Hear(report(1, api.Stored), now) }},
		"Hear, without a code":               {true, func(e *dual.Engine, now uint64) { e.Hear(report(1, 0), now) }},
		"Hear, of a session that nobody has": {true, func(e *dual.Engine, now uint64) { e.Hear(report(77, api.Stored), now) }},
		"Hear, of another epoch": {false, func(e *dual.Engine, now uint64) {
			e.Hear(api.Unit{Kind: api.Report, Epoch: 2, Session: 1, Code: 1}, now)
		}},
		"Hear, no report": {false, func(e *dual.Engine, now uint64) { e.Hear(cancel(1), now) }},
		"State":           {false, func(e *dual.Engine, now uint64) { e.State() }},
	} {
		c := with(1, 8)
		e := fresh(t, c, 3, 100)
		call.do(e, 1000)
		clock := uint64(100)
		if call.moves {
			clock = 1000
		}
		e.Cancel(a, 0)
		e.Cancel(d, 0)
		e.Send(b, one(), true, 50) // a time ahead of the clock is the clock
		e.Send(key(0, 9), one(), false, 50)
		e.Tick(clock + 9)
		if fast, _, _, _ := e.State(); len(fast) != 1 {
			t.Errorf("%s: behind %d and 9 ticks the express session is over", name, clock)
		}
		e.Tick(clock + 10)
		if fast, slow, _, _ := e.State(); len(fast) != 0 || len(slow) != 2 {
			t.Errorf("%s: behind %d and 10 ticks the express session is under way", name, clock)
		}
		if out := e.Tick(clock + 19); len(out.Units) != 0 {
			t.Errorf("%s: behind %d and 19 ticks a freight session is sent again", name, clock)
		}
		if out := e.Tick(clock + 20); len(out.Units) != 1 {
			t.Errorf("%s: behind %d and 20 ticks no freight session is sent again", name, clock)
		}
	}
}

// TestTheClockIsTold: what Hear and Cancel moved on is what the next session begins at, and what a Tick of an earlier time goes by.
func TestTheClockIsTold(t *testing.T) {
	e := fresh(t, config(), 3, 100)
	sends(t, e, a, false, 100, slow(1))
	sends(t, e, b, false, 100)
	sends(t, e, c, false, 100)
	hears(t, e, report(1, api.Stored), 300, done(a, api.Stored, slow(2)))
	ticks(t, e, 319, dual.Out{})
	ticks(t, e, 320, sent(slow(2)))
	cancels(t, e, b, 400, cancel(2), slow(3))
	ticks(t, e, 419, dual.Out{})
	ticks(t, e, 420, sent(slow(3)))

	e = fresh(t, config(), 3, 100)
	sends(t, e, a, true, 100, fast(1))
	sends(t, e, b, false, 100, slow(2))
	hears(t, e, report(77, api.Stored), 120, dual.Out{})
	ticks(t, e, 0, sent(slow(2))) // at 120
	stands(t, e, nil, keys(b), keys(a), nil)
}

// TestTheEndOfTime: at MaxNumber every time is over.
func TestTheEndOfTime(t *testing.T) {
	for _, now := range []uint64{api.MaxNumber, api.MaxNumber + 1, math.MaxUint64} {
		e := fresh(t, with(0, 1), 3, now)
		sends(t, e, a, true, 0, fast(1))
		sends(t, e, b, false, now, slow(2))
		ticks(t, e, 0, dual.Out{Rest: keys(b), Units: []api.Unit{slow(3)}})
		ticks(t, e, now, rests(a))
		kicks(t, e, now, slow(4))
		stands(t, e, nil, keys(b), keys(a), nil)
		ticks(t, e, now, dual.Out{Rest: keys(b), Units: []api.Unit{slow(5)}})
	}
	e := fresh(t, config(), 3, api.MaxNumber-5)
	sends(t, e, a, true, 0, fast(1))
	ticks(t, e, api.MaxNumber-1, dual.Out{})
	ticks(t, e, math.MaxUint64, sent(slow(2)))
}

// TestTickInItsOrder: express first, so that what is late there gets under way in the same Tick; what is sent again ahead of what begins; those that rest behind the others.
func TestTickInItsOrder(t *testing.T) {
	c0 := with(1, 3)
	c0.AckTime, c0.RetryTime = 20, 10
	e := fresh(t, c0, 3, 100)
	sends(t, e, a, false, 100, slow(1))
	ticks(t, e, 110, sent(slow(1)))
	sends(t, e, b, true, 110, fast(2))
	sends(t, e, c, false, 110, slow(3))
	sends(t, e, d, true, 110, fast(4))
	// a is lost, c is sent again, and one place is free beside that of a: b and d, late now, take both.
	ticks(t, e, 130, dual.Out{Units: []api.Unit{slow(3), slow(5), slow(6)}, Rest: keys(a)})
	stands(t, e, nil, keys(c, b, d), nil, keys(a))
	ticks(t, e, 140, dual.Out{Units: []api.Unit{slow(5), slow(6)}, Rest: keys(c)})
	ticks(t, e, 150, dual.Out{Rest: keys(b, d)})
	stands(t, e, nil, nil, nil, keys(a, c, b, d))

	// What is late by express stands behind all that wait, in the order in which it began.
	e = fresh(t, with(0, 1), 3, 100)
	sends(t, e, a, true, 100, fast(1))
	sends(t, e, b, true, 101, fast(2))
	sends(t, e, c, false, 101, slow(3))
	sends(t, e, d, false, 101)
	ticks(t, e, 115, dual.Out{})
	stands(t, e, nil, keys(c), keys(d, a, b), nil)
	ticks(t, e, 121, dual.Out{Units: []api.Unit{slow(4)}, Rest: keys(c)})
	stands(t, e, nil, keys(d), keys(a, b), keys(c))
}

// TestCancelInEachPlace: which unit is sent, and what goes instead.
func TestCancelInEachPlace(t *testing.T) {
	e := fresh(t, with(0, 1), 3, 100)
	cancelsNot(t, e, a, 100)
	sends(t, e, a, true, 100, fast(1))
	sends(t, e, b, false, 100, slow(2))
	sends(t, e, c, false, 100)
	sends(t, e, d, true, 100, fast(3))
	cancels(t, e, d, 100, cancel(3)) // by express
	ticks(t, e, 110, dual.Out{})
	stands(t, e, nil, keys(b), keys(c, a), nil)
	cancels(t, e, a, 110, cancel(1)) // waiting, with a session that it had
	cancels(t, e, c, 110)            // waiting, and it never had one
	sends(t, e, c, false, 110)
	cancels(t, e, b, 110, cancel(2), slow(4)) // under way
	cancels(t, e, c, 110, cancel(4))
	for _, k := range keys(a, b, c, d) {
		cancelsNot(t, e, k, 110)
	}
	stands(t, e, nil, nil, nil, nil)

	sends(t, e, a, true, 110, fast(5))
	ticks(t, e, 120, sent(slow(6)))
	ticks(t, e, 140, rests(a))
	kicks(t, e, 140, slow(7))
	ticks(t, e, 160, rests(a))
	sends(t, e, b, false, 160, slow(8))
	sends(t, e, c, false, 160)
	cancels(t, e, a, 160, cancel(7)) // resting: of its last session, and nothing goes instead
	stands(t, e, nil, keys(b), keys(c), nil)
	kicks(t, e, 161)
	hears(t, e, report(7, api.Stored), 161, dual.Out{})
}

// TestKick: those that rest stand behind those that wait, in their order; with room they go at once.
func TestKick(t *testing.T) {
	e := fresh(t, with(0, 2), 3, 100)
	kicks(t, e, 100)
	sends(t, e, a, false, 100, slow(1))
	sends(t, e, b, false, 105, slow(2))
	ticks(t, e, 125, rests(a, b))
	sends(t, e, c, false, 125, slow(3))
	sends(t, e, d, false, 125, slow(4))
	sends(t, e, key(0, 5), false, 125)
	kicks(t, e, 126)
	stands(t, e, nil, keys(c, d), keys(key(0, 5), a, b), nil)
	kicks(t, e, 126)
	stands(t, e, nil, keys(c, d), keys(key(0, 5), a, b), nil)
	hears(t, e, report(3, api.Stored), 126, done(c, api.Stored, slow(5)))
	hears(t, e, report(4, api.Stored), 126, done(d, api.Stored, slow(6)))
	hears(t, e, report(5, api.Stored), 126, done(key(0, 5), api.Stored, slow(7)))
	stands(t, e, nil, keys(a, b), nil, nil)
	ticks(t, e, 146, rests(a, b))
	kicks(t, e, 147, slow(8), slow(9))
	ticks(t, e, 167, rests(a, b))
	hears(t, e, report(1, api.Expired), 167, done(a, api.Expired)) // one of long ago
	kicks(t, e, 168, slow(10))
}

// TestOrderOfRest: in the order in which they came to rest, also where one leaves from the midst and comes again.
func TestOrderOfRest(t *testing.T) {
	e := fresh(t, with(0, 4), 3, 100)
	for i, k := range keys(a, b, c, d) {
		sends(t, e, k, false, 100, slow(uint64(i+1)))
	}
	ticks(t, e, 120, rests(a, b, c, d))
	cancels(t, e, b, 120, cancel(2))
	hears(t, e, report(3, api.Stored), 120, done(c, api.Stored))
	stands(t, e, nil, nil, nil, keys(a, d))
	sends(t, e, b, false, 120, slow(5))
	ticks(t, e, 140, rests(b))
	stands(t, e, nil, nil, nil, keys(a, d, b))
	kicks(t, e, 140, slow(6), slow(7), slow(8))
	stands(t, e, nil, keys(a, d, b), nil, nil)
}
