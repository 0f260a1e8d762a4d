package inbox_test

import (
	"bytes"
	"runtime"
	"slices"
	"testing"

	"halyard/api"
	"halyard/inbox"
)

// spoil: a list and the room behind it are written over.
func spoil(b []byte) {
	b = b[:cap(b)]
	for i := range b {
		b[i] ^= 0xff
	}
}

// TestArgumentsAreNotKept: what is done to a unit's lists afterwards changes nothing of the inbox; they, and the room behind them, stay as they were.
func TestArgumentsAreNotKept(t *testing.T) {
	all := []byte("abcdefgh")
	x := fresh(t, 2, 2)
	u := data(1, 1, 0, 2, "")
	u.Data = all[:4]
	takes(t, x, u, partial(0, 1))
	takes(t, x, u, partial(0, 1))
	u.Index, u.Data = 1, all[4:6]
	takes(t, x, u, whole("abcdef"))
	if string(all) != "abcdefgh" {
		t.Errorf("P1301: the segments stand in %q", all)
	}
	spoil(all)
	takes(t, x, data(1, 1, 0, 2, "abcd"), whole("abcdef"))

	ranges := []api.Range{{From: 3, To: 4}, {From: 1, To: 2}}
	u.Got = ranges[:1]
	takes(t, x, u, wrong())
	if !slices.Equal(ranges, []api.Range{{From: 3, To: 4}, {From: 1, To: 2}}) {
		t.Errorf("P1301: a unit's ranges are %v", ranges)
	}
}

// TestAnswersAreNewMemory: what is done to an answer changes nothing of the inbox, and no other answer.
func TestAnswersAreNewMemory(t *testing.T) {
	x := fresh(t, 4, 4)
	takes(t, x, data(1, 1, 0, 3, "ab"), partial(0, 1))
	first, second := x.Take(data(1, 1, 2, 3, "e")), x.Take(data(1, 1, 2, 3, "e"))
	l := first.Got[:cap(first.Got)]
	for i := range l {
		l[i] = api.Range{From: -1, To: 70}
	}
	if !sameAnswer(second, partial(0, 1, 2, 3)) {
		t.Errorf("P1301: two answers share their ranges: %+v", second)
	}
	takes(t, x, data(1, 1, 0, 3, "ab"), partial(0, 1, 2, 3))
	u := data(1, 1, 1, 3, "cd")
	first, second = x.Take(u), x.Take(u)
	spoil(first.Block)
	if !bytes.Equal(second.Block, []byte("abcde")) || string(u.Data) != "cd" {
		t.Errorf("P1301: two answers share their block: %q; the unit has %q", second.Block, u.Data)
	}
	takes(t, x, u, whole("abcde"))
	v := data(1, 2, 0, 1, "x")
	first = x.Take(v)
	spoil(first.Block)
	takes(t, x, v, whole("x"))

	decides(t, x, 1, 8, api.Stored, api.OK)
	decides(t, x, 1, 9, api.Stored, api.OK)
	for _, list := range []func() []inbox.Session{x.Open, x.Decided} {
		a, b := list(), list()
		want := slices.Clone(b)
		clear(a[:cap(a)])
		if !slices.Equal(b, want) || !slices.Equal(list(), want) {
			t.Errorf("P1301: two answers share memory: %v, %v, want %v", b, list(), want)
		}
	}
	shows(t, x, 1, numbers{1, 2}, numbers{8, 9})
}

// TestAnswersStay: an answer does not change by what is called later.
func TestAnswersStay(t *testing.T) {
	x := fresh(t, 2, 2)
	a := x.Take(data(1, 1, 0, 3, "ab"))
	open := x.Open()
	takes(t, x, data(1, 1, 1, 3, "cd"), partial(0, 2))
	takes(t, x, data(1, 2, 0, 1, "x"), whole("x"))
	b := x.Take(data(1, 1, 2, 3, "e"))
	decides(t, x, 1, 1, api.Stored, api.OK)
	done := x.Decided()
	takes(t, x, data(2, 1, 0, 3, "zz"), partial(0, 1))
	if !sameAnswer(a, partial(0, 1)) || !sameAnswer(b, whole("abcde")) || !slices.Equal(open, of(1, 1)) || !slices.Equal(done, of(1, 1)) {
		t.Errorf("P1301: answers are %+v, %+v, %v, %v", a, b, open, done)
	}
}

func heap() uint64 {
	runtime.GC()
	runtime.GC()
	var m runtime.MemStats
	runtime.ReadMemStats(&m)
	return m.HeapAlloc
}

// TestLittleIsKept: of sessions that were decided, dropped, given up or forgotten, and of what was refused, nothing is kept.
func TestLittleIsKept(t *testing.T) {
	before := heap()
	x := fresh(t, 2, 16)
	great := make([]byte, 512)
	for n := uint64(1); n <= 100000; n++ {
		u := data(1+n/1000, n, 0, 2, "")
		u.Data = great
		x.Take(u)
		switch n % 4 {
		case 0:
			decides(t, x, 1+n/1000, n, api.Stored, api.OK)
		case 1:
			drops(t, x, 1+n/1000, n, true)
		case 2:
			u.Count = 3
			takes(t, x, u, wrong())
		}
	}
	if after := heap(); after > before+1<<17 {
		t.Errorf("P1309: %d bytes are kept", after-before)
	}
	runtime.KeepAlive(x)
}
