package backlog_test

import (
	"bytes"
	"runtime"
	"slices"
	"testing"

	"halyard/api"
	"halyard/backlog"
	"halyard/table"
)

// spoil: writes over all that a list can reach.
func spoil(b []byte) {
	b = b[:cap(b)]
	for i := range b {
		b[i] = 0x5a
	}
}

// withThree: a backlog with three frames.
func withThree(t *testing.T) (b *backlog.Backlog, tb *table.Table, frames []api.Frame) {
	t.Helper()
	_, tb, b = begun(t, 3, 5)
	frames = []api.Frame{frame(3, 5, 0, 9, "abc"), frame(5, 4, 0, 9, "defg"), frame(3, 6, 1, 9, "hi")}
	for _, f := range frames {
		takes(t, b, f, 0, true)
	}
	return b, tb, frames
}

func TestDataIsNotChangedAndNotKept(t *testing.T) {
	_, tb, b := begun(t, 3)
	room := bytes.Repeat([]byte{0xa5}, 40)
	copy(room, "abc")
	f, _, e := b.Put(3, 5, 9, room[:3], 0)
	is(t, "P904", e, api.OK)
	if string(room[:3]) != "abc" || !bytes.Equal(room[3:], bytes.Repeat([]byte{0xa5}, 37)) {
		t.Error("P1: Put changed the data, or the room behind them")
	}
	spoil(room)
	if string(f.Data) != "abc" {
		t.Error("P1: Put's answer shares memory with its argument")
	}
	has(t, "P1: Put keeps the data", b, frame(3, 5, 0, 9, "abc"))
	spoil(f.Data)
	if string(room) != string(bytes.Repeat([]byte{0x5a}, 40)) {
		t.Error("P1: Put's answer shares memory with its argument")
	}
	has(t, "P1: Put's answer shares memory with the backlog", b, frame(3, 5, 0, 9, "abc"))
	has(t, "P1: the table shares memory", open(t, tb), frame(3, 5, 0, 9, "abc"))
	// Also where the data are refused.
	great := bytes.Repeat([]byte{7}, 600)
	refuses(t, "too great", b, 3, 5, 9, great[:513], 0, api.ErrSize)
	if !bytes.Equal(great, bytes.Repeat([]byte{7}, 600)) {
		t.Error("P1: Put changed what it refused")
	}
}

func TestAnswersAreNewMemory(t *testing.T) {
	b, tb, frames := withThree(t)
	for range 2 {
		one, _ := b.Get(key(3, 0))
		two, _ := b.Get(key(3, 0))
		spoil(one.Data)
		if string(two.Data) != "abc" {
			t.Error("P1: two answers of Get share memory")
		}
		has(t, "P1: an answer of Get shares memory with the backlog", b, frames...)
	}
	keys, again := b.Keys(), b.Keys()
	late, other := b.Over(top), b.Over(top)
	all, more := b.Streams(), b.Streams()
	for _, list := range [][]api.Key{keys, late} {
		list = list[:cap(list)]
		for i := range list {
			list[i] = key(7, 77)
		}
	}
	all = all[:cap(all)]
	for i := range all {
		all[i] = 77
	}
	want := []api.Key{key(3, 0), key(5, 0), key(3, 1)}
	if !slices.Equal(again, want) || !slices.Equal(other, want) || !slices.Equal(more, []int{3, 5}) {
		t.Errorf("P1: answers share memory with one another: %v, %v, %v", again, other, more)
	}
	has(t, "P1: answers share memory with the backlog", b, frames...)
	streams(t, "P1: answers share memory with the backlog", b, 3, 5)
	s, _ := b.Newest(3)
	s.Time = 99
	stands(t, "P1", b, 3, 2, ref(at(6, 1)))
	has(t, "P1: the table is as it was", open(t, tb), frames...)
}

// What was answered stays as it was, whatever is changed.
func TestAnswersStay(t *testing.T) {
	b, _, frames := withThree(t)
	keys, late, all := b.Keys(), b.Over(14), b.Streams()
	f, _ := b.Get(key(5, 0))
	is(t, "P905", b.Done(key(5, 0)), api.OK)
	is(t, "P905", b.Done(key(3, 0)), api.OK)
	is(t, "P903", b.Cease(3), api.OK)
	is(t, "P903", b.Begin(0), api.OK)
	takes(t, b, frame(0, 1, 0, 9, "other"), 0, true)
	if !slices.Equal(keys, []api.Key{key(3, 0), key(5, 0), key(3, 1)}) || !slices.Equal(late, []api.Key{key(3, 0), key(5, 0)}) || !slices.Equal(all, []int{3, 5}) || !same(f, frames[1]) {
		t.Errorf("P1: answers changed: %v, %v, %v, %v", keys, late, all, f)
	}
}

func TestBacklogsStandApart(t *testing.T) {
	one, _, frames := withThree(t)
	other, _, _ := withThree(t)
	is(t, "P905", one.Done(key(3, 0)), api.OK)
	is(t, "P903", one.Cease(3), api.OK)
	is(t, "P903", one.Begin(4), api.OK)
	has(t, "P1: two backlogs share memory", other, frames...)
	streams(t, "P1: two backlogs share memory", other, 3, 5)
}

// The order of what is told hangs on the places alone, however often it is asked.
func TestToldAlike(t *testing.T) {
	_, _, b := begun(t, 0, 1, 2, 3, 4, 5, 6, 7)
	for n := range 64 {
		b.Put((n*5)%8, uint64(n*37%64), 9, nil, 0)
	}
	keys, late := b.Keys(), b.Over(40)
	for range 200 {
		if !slices.Equal(b.Keys(), keys) || !slices.Equal(b.Over(40), late) {
			t.Fatal("P1: Keys or Over tell another order")
		}
	}
}

// What is done with is not kept.
func TestKeepsNoMore(t *testing.T) {
	_, _, b := begun(t, 3)
	heap := func() int {
		runtime.GC()
		runtime.GC()
		var m runtime.MemStats
		runtime.ReadMemStats(&m)
		return int(m.HeapAlloc)
	}
	run := func(from, to uint64) {
		for n := from; n < to; n++ {
			takes(t, b, frame(3, 100, n, 9, string(make([]byte, 500))), 0, true)
			if n >= 8 {
				is(t, "P905", b.Done(key(3, n-8)), api.OK)
			}
		}
	}
	run(0, 500)
	was := heap()
	run(500, 8500)
	if grown := heap() - was; grown > 1<<20 {
		t.Errorf("P1: %d bytes more are kept behind 8000 frames that are done with", grown)
	}
	runtime.KeepAlive(b)
}
