package node_test

import (
	"bytes"
	"fmt"
	"runtime"
	"slices"
	"strings"
	"sync/atomic"
	"testing"
	"time"

	"halyard/api"
	"halyard/node"
	"halyard/service"
)

// spoil: a list and the room behind it are written over.
func spoil(b []byte) {
	b = b[:cap(b)]
	for i := range b {
		b[i] ^= 0xff
	}
}

// spoilEffect: whatever can be reached from it.
func spoilEffect(x service.Effect) {
	for _, u := range x.Units[:cap(x.Units)] {
		spoil(u.Data)
		clear(u.Got[:cap(u.Got)])
	}
	for _, f := range x.Shown[:cap(x.Shown)] {
		spoil(f.Data)
	}
	clear(x.Units[:cap(x.Units)])
	clear(x.Shown[:cap(x.Shown)])
	clear(x.Done[:cap(x.Done)])
	clear(x.Rest[:cap(x.Rest)])
}

// TestNewMemory: what is done to an answer, or to an argument behind the call, changes nothing of what comes later.
func TestNewMemory(t *testing.T) {
	c := config()
	c.Mtu = 16
	told := func(ruins bool) (l []string) {
		n, e := node.New(c, 1, 2, 400, 100)
		is(t, "P1902: New", e, api.OK)
		is(t, "P1903: Begin", n.Begin(3), api.OK)
		is(t, "P1903: Listen", n.Listen(5, api.Quota{Count: 3, Bytes: 500}), api.OK)
		tell := func(x service.Effect, e api.Errno) {
			is(t, "P1903: a call", e, api.OK)
			l = append(l, fmt.Sprint(x), tells(n.Service()))
			if ruins {
				spoilEffect(x)
			}
		}
		for i := range uint64(3) {
			data := bytes.Repeat([]byte{'a'}, 20)
			_, x, e := n.Send(3, 100+i, 90, data, 100)
			b := theirs(t, i+1, 100+i, "their data")
			y, f := n.Hear(b, 101)
			if ruins {
				spoil(data)
				spoil(b)
			}
			tell(x, e)
			tell(y, f)
		}
		for now := uint64(110); now < 200; now += 10 {
			tell(n.Tick(now))
			tell(n.Kick(now))
			if now%30 == 0 {
				choices := []int{1, -1, 2}
				n.Crash(choices)
				if !slices.Equal(choices, []int{1, -1, 2}) {
					t.Error("P1901: the choices are changed")
				}
				clear(choices)
				tell(n.Restart(now))
			}
		}
		tell(n.Hear(reported(t, n.Service().State().Epoch, 1, api.Stored), 200))
		return l
	}
	if a, b := told(false), told(true); !slices.Equal(a, b) {
		t.Error("P1901: what was done to answers and arguments has changed later answers")
	}
}

// TestArgumentsStay: what is handed in is as it was, the room behind it too.
func TestArgumentsStay(t *testing.T) {
	n := begun(t, 256)
	for _, b := range [][]byte{theirs(t, 1, 100, "abc"), reported(t, 2, 1, api.Stored), {1, 2, 3}} {
		room := append(slices.Clone(b), 7, 8, 9)
		n.Hear(room[:len(b)], 100)
		n.Send(3, 100, 50, room[:len(b)], 100)
		if !bytes.Equal(room, append(slices.Clone(b), 7, 8, 9)) {
			t.Errorf("P1901: what was handed in is %v now", room)
		}
	}
	n.Cut(0)
	data := []byte("data of a Send that breaks off")
	n.Send(3, 100, 50, data[:4], 100)
	if string(data) != "data of a Send that breaks off" {
		t.Errorf("P1901: what was handed in is %s now", data)
	}
}

// TestNilAndEmpty: they mean the same.
func TestNilAndEmpty(t *testing.T) {
	a, b := begun(t, 256), begun(t, 256)
	for range 2 {
		x, y := withKey(a.Send(3, 100, 50, nil, 100)), withKey(b.Send(3, 100, 50, []byte{}, 100))
		if x.e != api.OK || !x.same(y) {
			t.Errorf("P1901: Send of nil is %+v, of an empty one %+v", x, y)
		}
		if x, y := withEffect(a.Hear(nil, 100)), withEffect(b.Hear([]byte{}, 100)); !x.same(y) {
			t.Errorf("P1901: Hear of nil is %+v, of an empty one %+v", x, y)
		}
		a.Cut(1)
		b.Cut(1)
		a.Begin(4)
		b.Begin(4)
		a.Crash(nil)
		b.Crash([]int{})
		if x, y := withEffect(a.Restart(101)), withEffect(b.Restart(101)); !x.same(y) || tells(a.Service()) != tells(b.Service()) {
			t.Errorf("P1901: behind a Crash of nil %+v, of an empty one %+v", x, y)
		}
	}
}

// TestGivenUp: what was open when a node fell is held by nobody.
func TestGivenUp(t *testing.T) {
	for what, falls := range map[string]func(n *node.Node){
		"Crash":             func(n *node.Node) { n.Crash(nil) },
		"a call":            func(n *node.Node) { n.Cut(0); n.Begin(6) },
		"Crash and Restart": func(n *node.Node) { n.Crash(nil); n.Restart(100) },
		"a Restart that breaks off": func(n *node.Node) {
			n.Crash(nil)
			n.Cut(1)
			n.Restart(100)
		},
	} {
		n := begun(t, 256)
		n.Send(3, 100, 50, []byte("abc"), 100)
		var gone atomic.Int32
		runtime.AddCleanup(n.Service(), func(int) { gone.Add(1) }, 0)
		runtime.AddCleanup(n.Player(), func(int) { gone.Add(1) }, 0)
		falls(n)
		for range 100 {
			runtime.GC()
			if gone.Load() == 2 {
				break
			}
			time.Sleep(time.Millisecond)
		}
		if gone.Load() != 2 {
			t.Errorf("P1904: behind %s service or player of the life before are held still", what)
		}
		runtime.KeepAlive(n)
	}
}

// TestFewBytesAreKept: a node that falls and gets up again and again needs no more than at first.
func TestFewBytesAreKept(t *testing.T) {
	n := begun(t, 256)
	used := func() uint64 {
		var m runtime.MemStats
		runtime.GC()
		runtime.ReadMemStats(&m)
		return m.HeapAlloc
	}
	turn := func(i uint64) {
		n.Send(3, i, 50, []byte(strings.Repeat("x", 100)), i)
		n.Hear(theirs(t, i, i, strings.Repeat("y", 20)), i)
		n.Tick(i + 100)
		n.Crash(nil)
		if _, e := n.Restart(i); e != api.OK {
			t.Fatalf("P1907: Restart = %v", e)
		}
	}
	for i := range uint64(200) {
		turn(i + 1)
	}
	before := used()
	for i := range uint64(2000) {
		turn(i + 300)
	}
	if behind := used(); behind > before+1<<20 {
		t.Errorf("P1901: %d bytes are used, and were %d before", behind, before)
	}
	runtime.KeepAlive(n)
}

// TestNoGoroutines: none goes on behind a call.
func TestNoGoroutines(t *testing.T) {
	before := runtime.NumGoroutine()
	for range 20 {
		n := begun(t, 256)
		good, bad := nine(t)
		for _, c := range slices.Concat(good, bad) {
			c.do(n)
		}
		n.Crash(nil)
		n.Restart(100)
	}
	for range 100 {
		if runtime.NumGoroutine() <= before {
			return
		}
		time.Sleep(time.Millisecond)
	}
	t.Errorf("P1901: %d goroutines run, and %d before", runtime.NumGoroutine(), before)
}
