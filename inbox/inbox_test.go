package inbox_test

import (
	"bytes"
	"math"
	"slices"
	"strings"
	"testing"

	"halyard/api"
	"halyard/cutter"
	"halyard/inbox"
)

// The chapter's segments.
var (
	textA = strings.Repeat("A", 16)
	textB = strings.Repeat("B", 16)
	textC = strings.Repeat("C", 16)
)

func data(epoch, session uint64, index, count int, text string) api.Unit {
	return api.Unit{Kind: api.Data, Epoch: epoch, Session: session, Path: api.Freight, Index: index, Count: count, Data: []byte(text)}
}

func fresh(t *testing.T, open, decided int) *inbox.Inbox {
	t.Helper()
	x, e := inbox.New(open, decided)
	if x == nil || e != api.OK {
		t.Fatalf("P1302: New(%d, %d) = %v, %v", open, decided, x, e)
	}
	return x
}

func sameAnswer(a, b inbox.Answer) bool {
	return a.State == b.State && a.Code == b.Code && slices.Equal(a.Got, b.Got) && bytes.Equal(a.Block, b.Block)
}

func takes(t *testing.T, x *inbox.Inbox, u api.Unit, want inbox.Answer) {
	t.Helper()
	if got := x.Take(u); !sameAnswer(got, want) {
		t.Fatalf("P1303: Take(%+v) = %+v, want %+v", u, got, want)
	}
}

func wrong() inbox.Answer           { return inbox.Answer{State: inbox.Wrong} }
func stale() inbox.Answer           { return inbox.Answer{State: inbox.Stale} }
func whole(b string) inbox.Answer   { return inbox.Answer{State: inbox.Whole, Block: []byte(b)} }
func decided(code int) inbox.Answer { return inbox.Answer{State: inbox.Decided, Code: code} }

// partial: with these ranges, each by its ends.
func partial(ends ...int) inbox.Answer {
	a := inbox.Answer{State: inbox.Partial}
	for i := 0; i < len(ends); i += 2 {
		a.Got = append(a.Got, api.Range{From: ends[i], To: ends[i+1]})
	}
	return a
}

func decides(t *testing.T, x *inbox.Inbox, epoch, number uint64, code int, want api.Errno) {
	t.Helper()
	if e := x.Decide(inbox.Session{Epoch: epoch, Number: number}, code); e != want {
		t.Fatalf("P1304: Decide({%d %d}, %d) = %v, want %v", epoch, number, code, e, want)
	}
}

func drops(t *testing.T, x *inbox.Inbox, epoch, number uint64, want bool) {
	t.Helper()
	if was := x.Drop(inbox.Session{Epoch: epoch, Number: number}); was != want {
		t.Fatalf("P1305: Drop({%d %d}) = %v", epoch, number, was)
	}
}

func of(epoch uint64, numbers ...uint64) []inbox.Session {
	var l []inbox.Session
	for _, n := range numbers {
		l = append(l, inbox.Session{Epoch: epoch, Number: n})
	}
	return l
}

// shows: the epoch, and of it these sessions that are open and decided.
func shows(t *testing.T, x *inbox.Inbox, epoch uint64, open, decided []uint64) {
	t.Helper()
	if x.Epoch() != epoch || !slices.Equal(x.Open(), of(epoch, open...)) || !slices.Equal(x.Decided(), of(epoch, decided...)) {
		t.Fatalf("P1306: Epoch %d, Open %v, Decided %v, want %d, %v, %v", x.Epoch(), x.Open(), x.Decided(), epoch, open, decided)
	}
}

type numbers = []uint64

func TestConstants(t *testing.T) {
	if inbox.Stale != 1 || inbox.Wrong != 2 || inbox.Partial != 3 || inbox.Whole != 4 || inbox.Decided != 5 {
		t.Error("P1303: the states are not 1 to 5")
	}
}

// TestExamples: the chapter's, in their order, on one inbox.
func TestExamples(t *testing.T) {
	x := fresh(t, 2, 2)
	shows(t, x, 0, nil, nil)
	takes(t, x, data(1, 1, 0, 2, textA), partial(0, 1))
	takes(t, x, data(1, 1, 0, 2, textA), partial(0, 1))
	takes(t, x, data(1, 1, 1, 2, "xy"), whole(textA+"xy"))
	takes(t, x, data(1, 1, 1, 2, "xy"), whole(textA+"xy"))
	decides(t, x, 1, 1, api.Stored, api.OK)
	takes(t, x, data(1, 1, 0, 2, textA), decided(api.Stored))
	decides(t, x, 1, 1, api.Stored, api.ErrTwice)

	takes(t, x, data(1, 2, 0, 2, textA), partial(0, 1))
	takes(t, x, data(1, 3, 0, 2, textB), partial(0, 1))
	takes(t, x, data(1, 4, 0, 2, textC), partial(0, 1))
	shows(t, x, 1, numbers{3, 4}, numbers{1})
	takes(t, x, data(1, 3, 0, 2, textB), partial(0, 1))
	shows(t, x, 1, numbers{4, 3}, numbers{1})

	takes(t, x, data(1, 3, 1, 3, textA), wrong())
	takes(t, x, data(1, 3, 2, 2, textA), wrong())

	decides(t, x, 1, 9, api.Cancelled, api.OK)
	decides(t, x, 1, 8, api.Expired, api.OK)
	shows(t, x, 1, numbers{4, 3}, numbers{9, 8})
	takes(t, x, data(1, 9, 0, 1, "z"), decided(api.Cancelled))
	shows(t, x, 1, numbers{4, 3}, numbers{8, 9})

	takes(t, x, data(2, 1, 0, 1, "z"), whole("z"))
	shows(t, x, 2, numbers{1}, nil)
	takes(t, x, data(1, 3, 0, 2, textB), stale())
	decides(t, x, 1, 3, api.Stored, api.ErrOld)
	drops(t, x, 2, 1, true)
	drops(t, x, 2, 1, false)
	decides(t, x, 0, 1, api.Stored, api.ErrArg)
	decides(t, x, 2, 1, 0, api.ErrArg)
	decides(t, x, 2, 1, 8, api.ErrArg)
	shows(t, x, 2, nil, nil)
}

// TestNew: each number about its ends.
func TestNew(t *testing.T) {
	for _, open := range []int{math.MinInt, -1, 0, 1, 2, 63, 64, 65, 4096, math.MaxInt} {
		for _, decided := range []int{math.MinInt, -1, 0, 1, 2, 64, 65, 4095, 4096, 4097, math.MaxInt} {
			x, e := inbox.New(open, decided)
			if open < 1 || open > 64 || decided < 1 || decided > 4096 {
				if x != nil || e != api.ErrArg {
					t.Errorf("P1302: New(%d, %d) = %v, %v", open, decided, x, e)
				}
				continue
			}
			if x == nil || e != api.OK {
				t.Fatalf("P1302: New(%d, %d) = %v, %v", open, decided, x, e)
			}
			shows(t, x, 0, nil, nil)
		}
	}
}

// TestRoom: an inbox holds just as many sessions as New was told.
func TestRoom(t *testing.T) {
	for _, room := range []struct{ open, decided int }{{1, 1}, {1, 4096}, {2, 3}, {64, 1}, {64, 4096}} {
		x := fresh(t, room.open, room.decided)
		var open, done numbers
		for n := range uint64(room.open + 3) {
			takes(t, x, data(5, 100000+n, 0, 2, "a"), partial(0, 1))
			open = append(open, 100000+n)
		}
		shows(t, x, 5, open[3:], nil)
		for n := range uint64(room.decided + 3) {
			decides(t, x, 5, 1+n, 1+int(n%7), api.OK)
			done = append(done, 1+n)
			if n == uint64(room.decided)-1 {
				shows(t, x, 5, open[3:], done)
			}
		}
		shows(t, x, 5, open[3:], done[3:])
		takes(t, x, data(5, 4, 0, 1, "a"), decided(4))
		takes(t, x, data(5, 3, 0, 1, "a"), whole("a"))
	}
}

// TestNoInbox: a nil one, and one that New did not make.
func TestNoInbox(t *testing.T) {
	var none *inbox.Inbox
	for _, x := range []*inbox.Inbox{none, {}, new(inbox.Inbox)} {
		for _, u := range []api.Unit{data(1, 1, 0, 1, "a"), data(1, 1, 0, 2, "a"), {}, data(0, 1, 0, 1, "a")} {
			if a := x.Take(u); !sameAnswer(a, inbox.Answer{}) {
				t.Errorf("P1301: Take = %+v", a)
			}
		}
		for _, s := range []inbox.Session{{}, {Epoch: 1, Number: 1}} {
			for _, code := range []int{0, 1, 8} {
				if e := x.Decide(s, code); e != api.ErrArg {
					t.Errorf("P1301: Decide = %v", e)
				}
			}
			if x.Drop(s) {
				t.Error("P1301: Drop is true")
			}
		}
		if x.Epoch() != 0 || len(x.Open()) != 0 || len(x.Decided()) != 0 {
			t.Errorf("P1301: %d, %v, %v", x.Epoch(), x.Open(), x.Decided())
		}
	}
}

// notData: units that are none of data, each of which has one fault alone.
func notData(epoch, session uint64) []api.Unit {
	var l []api.Unit
	with := func(change func(u *api.Unit)) {
		u := data(epoch, session, 0, 2, "a")
		change(&u)
		l = append(l, u)
	}
	for _, kind := range []int{math.MinInt, -1, 0, api.Report, api.Cancel, 4, math.MaxInt} {
		with(func(u *api.Unit) { u.Kind = kind })
	}
	for _, n := range []uint64{0, api.MaxNumber + 1, math.MaxUint64} {
		with(func(u *api.Unit) { u.Epoch = n })
		with(func(u *api.Unit) { u.Session = n })
	}
	for _, path := range []int{-1, 0, 3} {
		with(func(u *api.Unit) { u.Path = path })
	}
	for _, i := range []int{math.MinInt, -1, 2, 3, math.MaxInt} {
		with(func(u *api.Unit) { u.Index = i })
	}
	for _, n := range []int{math.MinInt, -1, 0, 65, math.MaxInt} {
		with(func(u *api.Unit) { u.Count = n })
	}
	with(func(u *api.Unit) { u.Data = nil })
	with(func(u *api.Unit) { u.Data = []byte{} })
	with(func(u *api.Unit) { u.Data = make([]byte, 1025) })
	with(func(u *api.Unit) { u.Code = api.Stored })
	with(func(u *api.Unit) { u.Got = []api.Range{{From: 0, To: 1}} })
	return append(l,
		api.Unit{},
		api.Unit{Kind: api.Report, Epoch: epoch, Session: session, Code: api.Stored},
		api.Unit{Kind: api.Report, Epoch: epoch, Session: session, Got: []api.Range{{From: 0, To: 1}}},
		api.Unit{Kind: api.Cancel, Epoch: epoch, Session: session})
}

// TestNoUnitOfData: Wrong, whatever its epoch and session, and nothing changes.
func TestNoUnitOfData(t *testing.T) {
	x := fresh(t, 2, 2)
	for _, u := range notData(1, 1) {
		takes(t, x, u, wrong())
		shows(t, x, 0, nil, nil)
	}
	takes(t, x, data(5, 1, 0, 2, "a"), partial(0, 1))
	takes(t, x, data(5, 2, 0, 1, "b"), whole("b"))
	decides(t, x, 5, 3, api.Stored, api.OK)
	decides(t, x, 5, 4, api.Unheard, api.OK)
	for _, epoch := range []uint64{4, 5, 6} {
		for _, session := range []uint64{1, 2, 3, 9} {
			for _, u := range notData(epoch, session) {
				takes(t, x, u, wrong())
				shows(t, x, 5, numbers{1, 2}, numbers{3, 4})
			}
		}
	}
	takes(t, x, data(5, 1, 1, 2, "c"), whole("ac"))
}

// TestStale: units of an epoch that is over, whatever they would have come to, and nothing changes.
func TestStale(t *testing.T) {
	x := fresh(t, 2, 2)
	takes(t, x, data(6, 1, 0, 2, "a"), partial(0, 1))
	takes(t, x, data(6, 2, 0, 1, "b"), whole("b"))
	decides(t, x, 6, 3, api.Stored, api.OK)
	decides(t, x, 6, 4, api.Stored, api.OK)
	for epoch := uint64(1); epoch < 6; epoch++ {
		for session := uint64(1); session < 6; session++ {
			takes(t, x, data(epoch, session, 0, 2, "a"), stale())
			takes(t, x, data(epoch, session, 63, 64, textA+"x"), stale())
			shows(t, x, 6, numbers{1, 2}, numbers{3, 4})
		}
	}
	y := fresh(t, 1, 1)
	decides(t, y, api.MaxNumber, api.MaxNumber, api.Stored, api.OK)
	takes(t, y, data(api.MaxNumber-1, 1, 0, 1, "a"), stale())
	takes(t, y, data(api.MaxNumber, api.MaxNumber, 0, 1, "a"), decided(api.Stored))
	takes(t, y, data(api.MaxNumber, 1, 0, 1, "a"), whole("a"))
}

// TestNewEpoch: it comes by a unit that is taken, by one that no box takes, and by Decide; all that was there is gone, though it has the same numbers.
func TestNewEpoch(t *testing.T) {
	for _, up := range []uint64{2, 3, api.MaxNumber} {
		for way := range 3 {
			x := fresh(t, 2, 2)
			takes(t, x, data(1, 1, 0, 2, "a"), partial(0, 1))
			takes(t, x, data(1, 2, 0, 1, "b"), whole("b"))
			decides(t, x, 1, 3, api.Stored, api.OK)
			decides(t, x, 1, 4, api.Stored, api.OK)
			switch way {
			case 0:
				takes(t, x, data(up, 1, 1, 2, "c"), partial(1, 2))
				shows(t, x, up, numbers{1}, nil)
			case 1:
				takes(t, x, data(up, 1, 63, 64, textA+"x"), wrong())
				shows(t, x, up, nil, nil)
			case 2:
				decides(t, x, up, 3, api.TooOld, api.OK)
				shows(t, x, up, nil, numbers{3})
				takes(t, x, data(up, 3, 0, 1, "d"), decided(api.TooOld))
			}
			takes(t, x, data(up, 4, 0, 1, "e"), whole("e"))
			takes(t, x, data(1, 1, 1, 2, "c"), stale())
			takes(t, x, data(1, 3, 0, 1, "c"), stale())
			decides(t, x, 1, 1, api.Stored, api.ErrOld)
			decides(t, x, 1, 3, api.Stored, api.ErrOld)
			drops(t, x, 1, 1, false)
		}
	}
}

// TestRefusedChangesNothing: what does not go with a session's box leaves it, and the order, as it was.
func TestRefusedChangesNothing(t *testing.T) {
	x := fresh(t, 2, 2)
	takes(t, x, data(1, 1, 0, 3, "abc"), partial(0, 1))
	takes(t, x, data(1, 2, 2, 3, "xy"), partial(2, 3))
	for _, u := range []api.Unit{
		data(1, 1, 1, 2, "def"), data(1, 1, 1, 4, "def"), data(1, 1, 0, 1, "abc"), data(1, 1, 0, 4, "abc"), // another count
		data(1, 1, 0, 3, "abd"), data(1, 1, 0, 3, "ab"), data(1, 1, 0, 3, "abcd"), // other bytes
		data(1, 1, 1, 3, "de"), data(1, 1, 1, 3, "defg"), // another length
		data(1, 1, 2, 3, "wxyz"), // longer than the others
		data(1, 2, 0, 3, "a"), data(1, 2, 1, 3, strings.Repeat("a", 512)),
	} {
		takes(t, x, u, wrong())
		shows(t, x, 1, numbers{1, 2}, nil)
	}
	takes(t, x, data(1, 1, 2, 3, "g"), partial(0, 1, 2, 3))
	takes(t, x, data(1, 1, 1, 3, "def"), whole("abcdefg"))
	takes(t, x, data(1, 2, 1, 3, "cd"), partial(1, 3))
	shows(t, x, 1, numbers{1, 2}, nil)
}

// TestRefusedDrivesNobodyOut: a first unit that no new box takes opens no session: those that are open stay.
func TestRefusedDrivesNobodyOut(t *testing.T) {
	x := fresh(t, 2, 2)
	takes(t, x, data(1, 1, 0, 2, "a"), partial(0, 1))
	takes(t, x, data(1, 2, 0, 2, "b"), partial(0, 1))
	for _, u := range []api.Unit{data(1, 3, 63, 64, textA+"x"), data(1, 3, 0, 64, textA+"x"), data(1, 3, 0, 2, strings.Repeat("x", 1024)), data(1, 3, 1, 2, strings.Repeat("x", 513))} {
		takes(t, x, u, wrong())
		shows(t, x, 1, numbers{1, 2}, nil)
	}
	takes(t, x, data(1, 3, 63, 64, textA), partial(63, 64))
	shows(t, x, 1, numbers{2, 3}, nil)
	takes(t, x, data(1, 3, 0, 2, "a"), wrong())
	takes(t, x, data(1, 1, 0, 1, strings.Repeat("x", 1024)), whole(strings.Repeat("x", 1024)))
	shows(t, x, 1, numbers{3, 1}, nil)
}

// TestTouches: what touches a session, and what does not.
func TestTouches(t *testing.T) {
	x := fresh(t, 4, 4)
	for n := uint64(1); n <= 3; n++ {
		takes(t, x, data(1, n, 0, 3, "a"), partial(0, 1))
		decides(t, x, 1, 10+n, int(n), api.OK)
	}
	shows(t, x, 1, numbers{1, 2, 3}, numbers{11, 12, 13})
	takes(t, x, data(1, 1, 1, 3, "b"), partial(0, 2)) // a new segment
	shows(t, x, 1, numbers{2, 3, 1}, numbers{11, 12, 13})
	takes(t, x, data(1, 2, 0, 3, "a"), partial(0, 1)) // one that is there
	shows(t, x, 1, numbers{3, 1, 2}, numbers{11, 12, 13})
	takes(t, x, data(1, 3, 0, 3, "b"), wrong())
	shows(t, x, 1, numbers{3, 1, 2}, numbers{11, 12, 13})
	takes(t, x, data(1, 1, 2, 3, "c"), whole("abc"))
	takes(t, x, data(1, 2, 1, 3, "c"), partial(0, 2))
	takes(t, x, data(1, 1, 0, 3, "a"), whole("abc")) // of one that is whole
	shows(t, x, 1, numbers{3, 2, 1}, numbers{11, 12, 13})
	takes(t, x, data(1, 11, 0, 3, "a"), decided(1))
	shows(t, x, 1, numbers{3, 2, 1}, numbers{12, 13, 11})
	takes(t, x, data(1, 12, 63, 64, textA+"x"), decided(2)) // it does not matter what comes
	shows(t, x, 1, numbers{3, 2, 1}, numbers{13, 11, 12})
	decides(t, x, 1, 13, api.Stored, api.ErrTwice)
	decides(t, x, 1, 13, 8, api.ErrArg)
	drops(t, x, 1, 13, false)
	shows(t, x, 1, numbers{3, 2, 1}, numbers{13, 11, 12})
	decides(t, x, 1, 2, api.Stored, api.OK)
	shows(t, x, 1, numbers{3, 1}, numbers{13, 11, 12, 2})
	drops(t, x, 1, 3, true)
	shows(t, x, 1, numbers{1}, numbers{13, 11, 12, 2})
}

// TestGivenUpBeginsAnew: nothing is left of a session that was given up, dropped or forgotten.
func TestGivenUpBeginsAnew(t *testing.T) {
	x := fresh(t, 1, 1)
	takes(t, x, data(1, 1, 0, 3, "a"), partial(0, 1))
	takes(t, x, data(1, 2, 0, 2, "b"), partial(0, 1))
	takes(t, x, data(1, 1, 1, 2, "xyz"), partial(1, 2)) // another count, another length
	drops(t, x, 1, 2, false)
	drops(t, x, 1, 1, true)
	takes(t, x, data(1, 1, 0, 1, "c"), whole("c"))
	decides(t, x, 1, 1, api.TooLate, api.OK)
	takes(t, x, data(1, 1, 0, 1, "c"), decided(api.TooLate))
	decides(t, x, 1, 2, api.Stored, api.OK)
	shows(t, x, 1, nil, numbers{2})
	takes(t, x, data(1, 1, 0, 2, "d"), partial(0, 1))
	takes(t, x, data(1, 1, 1, 2, "e"), whole("de"))
	decides(t, x, 1, 1, api.TooOld, api.OK)
	shows(t, x, 1, nil, numbers{1})
	takes(t, x, data(1, 1, 1, 2, "e"), decided(api.TooOld))
}

// TestDecideOrder: of several errors the one that the chapter names first.
func TestDecideOrder(t *testing.T) {
	x := fresh(t, 2, 2)
	decides(t, x, 3, 1, api.Stored, api.OK)
	takes(t, x, data(3, 2, 0, 2, "a"), partial(0, 1))
	for _, code := range []int{math.MinInt, -1, 0, 8, math.MaxInt} {
		for _, s := range []inbox.Session{{Epoch: 1, Number: 1}, {Epoch: 3, Number: 1}, {Epoch: 3, Number: 2}, {Epoch: 4, Number: 1}} {
			decides(t, x, s.Epoch, s.Number, code, api.ErrArg)
		}
	}
	for code := api.Stored; code <= api.Cancelled; code++ {
		for _, n := range []uint64{0, api.MaxNumber + 1, math.MaxUint64} {
			for _, m := range []uint64{1, 3, 4} {
				decides(t, x, n, m, code, api.ErrArg)
				decides(t, x, m, n, code, api.ErrArg)
			}
		}
		decides(t, x, 2, 1, code, api.ErrOld)
		decides(t, x, 1, api.MaxNumber, code, api.ErrOld)
		decides(t, x, 3, 1, code, api.ErrTwice)
	}
	shows(t, x, 3, numbers{2}, numbers{1})
	takes(t, x, data(3, 1, 0, 1, "a"), decided(api.Stored))
	takes(t, x, data(3, 2, 1, 2, "b"), whole("ab"))
}

// TestEachCode: it is told as it was decided, ahead of the first unit and behind it.
func TestEachCode(t *testing.T) {
	for code := api.Stored; code <= api.Cancelled; code++ {
		x := fresh(t, 2, 2)
		decides(t, x, 1, 1, code, api.OK)
		takes(t, x, data(1, 1, 0, 2, "a"), decided(code))
		takes(t, x, data(1, 2, 0, 2, "a"), partial(0, 1))
		decides(t, x, 1, 2, code, api.OK)
		takes(t, x, data(1, 2, 1, 2, "a"), decided(code))
		shows(t, x, 1, nil, numbers{1, 2})
	}
}

// TestDrop: just a session that is open, of both its numbers.
func TestDrop(t *testing.T) {
	x := fresh(t, 3, 2)
	drops(t, x, 0, 0, false)
	takes(t, x, data(2, 2, 0, 2, "a"), partial(0, 1))
	takes(t, x, data(2, 3, 0, 1, "b"), whole("b"))
	decides(t, x, 2, 4, api.Stored, api.OK)
	for _, s := range []inbox.Session{{}, {Epoch: 2}, {Number: 2}, {Epoch: 1, Number: 2}, {Epoch: 3, Number: 2}, {Epoch: 3, Number: 3}, {Epoch: 2, Number: 1}, {Epoch: 2, Number: 4}, {Epoch: 2, Number: 5}, {Epoch: math.MaxUint64, Number: math.MaxUint64}} {
		drops(t, x, s.Epoch, s.Number, false)
	}
	shows(t, x, 2, numbers{2, 3}, numbers{4})
	drops(t, x, 2, 3, true)
	shows(t, x, 2, numbers{2}, numbers{4})
	drops(t, x, 2, 2, true)
	drops(t, x, 2, 2, false)
	shows(t, x, 2, nil, numbers{4})
	takes(t, x, data(2, 4, 0, 1, "b"), decided(api.Stored))
}

// TestBothPaths: by which path a segment comes is not asked.
func TestBothPaths(t *testing.T) {
	x := fresh(t, 1, 1)
	u := data(1, 1, 0, 2, "a")
	u.Path = api.Express
	takes(t, x, u, partial(0, 1))
	u.Path = api.Freight
	takes(t, x, u, partial(0, 1))
	takes(t, x, data(1, 1, 1, 2, "b"), whole("ab"))
	u.Path = api.Express
	takes(t, x, u, whole("ab"))
}

// TestInboxesApart: two inboxes have nothing in common.
func TestInboxesApart(t *testing.T) {
	x, y := fresh(t, 2, 2), fresh(t, 2, 2)
	takes(t, x, data(3, 1, 0, 2, "a"), partial(0, 1))
	decides(t, x, 3, 2, api.Stored, api.OK)
	shows(t, y, 0, nil, nil)
	takes(t, y, data(1, 1, 1, 2, "b"), partial(1, 2))
	decides(t, y, 1, 3, api.TooOld, api.OK)
	shows(t, x, 3, numbers{1}, numbers{2})
	shows(t, y, 1, numbers{1}, numbers{3})
}

// units: of one block, as they are sent.
func units(t *testing.T, epoch, session uint64, block []byte, mtu int) []api.Unit {
	t.Helper()
	segments, e := cutter.Cut(block, mtu)
	if e != api.OK {
		t.Fatalf("Cut = %v", e)
	}
	var l []api.Unit
	for i, s := range segments {
		l = append(l, data(epoch, session, i, len(segments), string(s)))
	}
	return l
}

// TestGreatBlocks: the greatest block in the most segments, and in one, forwards and backwards.
func TestGreatBlocks(t *testing.T) {
	block := make([]byte, 1024)
	for i := range block {
		block[i] = byte(i * 7)
	}
	for _, mtu := range []int{16, 17, 100, 512, 1023, 1024} {
		for _, size := range []int{1024, 1023, mtu} {
			for _, back := range []bool{false, true} {
				x := fresh(t, 1, 1)
				l := units(t, api.MaxNumber, api.MaxNumber, block[:size], mtu)
				if back {
					slices.Reverse(l)
				}
				for i, u := range l {
					a := x.Take(u)
					if last := i == len(l)-1; last != (a.State == inbox.Whole) || last && !bytes.Equal(a.Block, block[:size]) || !last && a.State != inbox.Partial {
						t.Fatalf("P1307: %d bytes by %d: unit %d of %d: %+v", size, mtu, i, len(l), a)
					}
				}
			}
		}
	}
}
