package dual_test

import (
	"bytes"
	"runtime"
	"slices"
	"testing"

	"halyard/api"
)

// spoil: a list and the room behind it are written over.
func spoil(b []byte) {
	b = b[:cap(b)]
	for i := range b {
		b[i] ^= 0xff
	}
}

// spoilUnits: so are the units, their bytes ahead of them.
func spoilUnits(l []api.Unit) {
	for _, u := range l {
		spoil(u.Data)
	}
	clear(l[:cap(l)])
}

// TestBlocksAreNotKept: a block, and the room behind it, stays as it was, and what is done to it later changes nothing, whichever way the frame goes.
func TestBlocksAreNotKept(t *testing.T) {
	for _, newest := range []bool{true, false} {
		e := fresh(t, with(0, 1), 3, 100)
		all := text(60)
		want := bytes.Clone(all)
		first, _ := e.Send(a, all[:40], newest, 100)
		second, _ := e.Send(b, all[:40], newest, 100)
		if !bytes.Equal(all, want) {
			t.Fatalf("P1601: the block stands in %v", all)
		}
		spoil(all)
		spoilUnits(first.Units)
		spoilUnits(second.Units)
		path, next := api.Freight, uint64(2)
		if newest {
			path = api.Express
			ticks(t, e, 110, sent(unitsOf(3, 3, api.Freight, want[:40], 16)...))
			next = 4
		}
		if len(first.Units) != 3 {
			t.Fatalf("P1603: by %d: %d units", path, len(first.Units))
		}
		out := e.Tick(130) // the first one is lost, the second one goes
		if !slices.EqualFunc(out.Units, unitsOf(3, next, api.Freight, want[:40], 16), sameUnit) {
			t.Fatalf("P1601: what waited shares memory with the block: %+v", out.Units)
		}
		spoilUnits(out.Units)
		cancels(t, e, b, 130, cancel(next))
		kicks(t, e, 130, unitsOf(3, next+1, api.Freight, want[:40], 16)...)
	}
}

// TestUnitsShareNothing: what is done to one unit's bytes changes neither another one's nor what is sent later.
func TestUnitsShareNothing(t *testing.T) {
	e := fresh(t, with(2, 2), 3, 100)
	block := text(100)
	e.Send(a, block, false, 100)
	x, _ := e.Send(b, block, true, 100)
	spoilUnits(x.Units)
	e.Tick(110) // now both are under way
	want := slices.Concat(unitsOf(3, 1, api.Freight, block, 16), unitsOf(3, 3, api.Freight, block, 16))
	first, second := e.Tick(130), e.Tick(150)
	for i := range first.Units {
		spoil(first.Units[i].Data)
		if !slices.EqualFunc(first.Units[i+1:], want[i+1:], sameUnit) {
			t.Fatalf("P1601: the units behind %d share memory with it", i)
		}
	}
	clear(first.Units[:cap(first.Units)])
	if !slices.EqualFunc(second.Units, want, sameUnit) {
		t.Errorf("P1601: two answers share memory: %+v", second.Units)
	}
	spoilUnits(second.Units)
	ticks(t, e, 170, rests(a, b))
	kicks(t, e, 170, slices.Concat(unitsOf(3, 4, api.Freight, block, 16), unitsOf(3, 5, api.Freight, block, 16))...)
}

// TestReportsAreNotKept: neither is a unit that is heard changed, nor the room behind its lists; nor does it count what becomes of them later.
func TestReportsAreNotKept(t *testing.T) {
	e := fresh(t, with(3, 1), 3, 100)
	block := text(100)
	e.Send(a, block, false, 100)
	all := unitsOf(3, 1, api.Freight, block, 16)
	ranges := []api.Range{span(0, 1), span(3, 4), span(9, 2)}
	want := slices.Clone(ranges)
	u := report(1, 0)
	for n := range ranges {
		u.Got = ranges[:n]
		e.Hear(u, 100)
		if !slices.Equal(ranges, want) {
			t.Fatalf("P1601: a report's ranges are %v", ranges)
		}
	}
	copy(ranges, []api.Range{span(0, 64), span(0, 64), span(0, 64)})
	ticks(t, e, 120, sent(slices.Concat(all[1:3], all[4:])...))
}

// TestKeysAreNewLists: what is done to an answer changes neither the engine nor another answer, nor another list of it.
func TestKeysAreNewLists(t *testing.T) {
	e := fresh(t, with(0, 4), 3, 100)
	for n := range uint64(8) {
		e.Send(key(0, n), one(), false, 100)
	}
	out := e.Tick(120)
	rest := keys(key(0, 0), key(0, 1), key(0, 2), key(0, 3))
	if !slices.Equal(out.Rest, rest) {
		t.Fatalf("P1605: Rest = %v", out.Rest)
	}
	clear(out.Rest[:cap(out.Rest)])
	for n := range uint64(4) {
		e.Send(key(1, n), one(), false, 120)
		e.Send(key(2, n), one(), true, 120)
	}
	ask := func() [][]api.Key {
		w, x, y, z := e.State()
		return [][]api.Key{w, x, y, z}
	}
	want := ask()
	for i := range want {
		if len(want[i]) != 4 {
			t.Fatalf("P1608: State = %v", want)
		}
		got, other := ask(), ask()
		clear(got[i][:cap(got[i])])
		for j := range want {
			if j != i && !slices.Equal(got[j], want[j]) || !slices.Equal(other[j], want[j]) {
				t.Errorf("P1601: two lists of keys share memory: %v", got)
			}
		}
	}
	if !slices.EqualFunc(ask(), want, slices.Equal) || !slices.Equal(want[3], rest) {
		t.Errorf("P1601: State = %v, want %v", ask(), want)
	}
}

// TestAnswersStay: an answer does not change by what is called later.
func TestAnswersStay(t *testing.T) {
	e := fresh(t, with(0, 2), 3, 100)
	block := text(50)
	e.Send(a, block, false, 100)
	e.Send(b, block, false, 100)
	first, _ := e.Send(c, block, true, 100)
	lost := e.Tick(120)
	_, _, _, rest := e.State()
	told := e.Hear(report(1, api.Stored), 120)
	kicked := e.Kick(120)
	cancelled, _ := e.Cancel(c, 121)
	e.Send(a, text(70), true, 122)
	e.Tick(142)
	e.Kick(143)
	e.Cancel(b, 144)
	if !slices.EqualFunc(first.Units, unitsOf(3, 3, api.Express, block, 16), sameUnit) ||
		!slices.EqualFunc(lost.Units, unitsOf(3, 4, api.Freight, block, 16), sameUnit) ||
		!slices.EqualFunc(kicked.Units, unitsOf(3, 5, api.Freight, block, 16), sameUnit) ||
		!slices.EqualFunc(cancelled.Units, []api.Unit{cancel(4)}, sameUnit) {
		t.Errorf("P1601: units are %+v, %+v, %+v, %+v", first, lost, kicked, cancelled)
	}
	if !slices.Equal(lost.Rest, keys(a, b)) || !slices.Equal(rest, keys(a, b)) || !slices.Equal(told.Done, []api.Done{{Key: a, Code: api.Stored}}) {
		t.Errorf("P1601: answers are %v, %v, %v", lost.Rest, rest, told.Done)
	}
}

func heap() uint64 {
	runtime.GC()
	runtime.GC()
	var m runtime.MemStats
	runtime.ReadMemStats(&m)
	return m.HeapAlloc
}

// TestLittleIsKept: of what is over, however it came so, and of what was refused, nothing is kept.
func TestLittleIsKept(t *testing.T) {
	e := fresh(t, with(0, 8), 3, 0)
	block := text(1024)
	round := func(from, to uint64) {
		for n := from; n < to; n++ {
			k := key(int(n%8), n)
			out, x := e.Send(k, block, n%2 == 0, n*50)
			if x != api.OK {
				t.Fatalf("P1603: Send = %v", x)
			}
			e.Send(k, block, n%2 == 1, n*50)
			number := out.Units[0].Session
			switch n % 5 {
			case 0:
				e.Hear(report(number, api.Stored), n*50)
			case 1:
				e.Cancel(k, n*50)
			case 2:
				e.Tick(n*50 + 10)
				e.Hear(report(number, api.Stored), n*50+10)
			case 3:
				e.Tick(n*50 + 10)
				e.Tick(n*50 + 40)
				e.Kick(n*50 + 40)
				e.Cancel(k, n*50+40)
			default:
				e.Tick(n*50 + 10)
				e.Tick(n*50 + 40)
				e.Hear(report(number, api.Stored), n*50+40)
			}
		}
		stands(t, e, nil, nil, nil, nil)
	}
	round(1, 2001)
	before := heap()
	round(2001, 52001)
	if after := heap(); after > before+1<<15 {
		t.Errorf("%d bytes are kept, where nothing is held", after-before)
	}
	runtime.KeepAlive(e)
}
