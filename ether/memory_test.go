package ether_test

import (
	"bytes"
	"runtime"
	"testing"

	"halyard/api"
)

// spoil: a list and the room behind it are written over.
func spoil(b []byte) {
	b = b[:cap(b)]
	for i := range b {
		b[i] ^= 0xff
	}
}

// TestArgumentsAreNotKept: what is done to an argument afterwards changes no datagram; an argument, and the room behind it, stays as it was.
func TestArgumentsAreNotKept(t *testing.T) {
	all := []byte("abcdef")
	w := way(t, 5, all[:3], all[1:1], all[3:5])
	turns(t, w, 0, 0, 0xff, api.OK)
	doubles(t, w, 0, api.OK)
	if string(all) != "abcdef" {
		t.Errorf("P1101: an argument became %q", all)
	}
	spoil(all)
	x := []byte{'a' ^ 0xff, 'b', 'c'}
	holds(t, w, x, nil, []byte("de"), x)
	puts(t, w, all[:2], api.OK)
	turns(t, w, 4, 0, 1, api.OK)
	if !bytes.Equal(all, []byte{'a' ^ 0xff, 'b' ^ 0xff, 'c' ^ 0xff, 'd' ^ 0xff, 'e' ^ 0xff, 'f' ^ 0xff}) {
		t.Errorf("P1101: an argument became %x", all)
	}
}

// TestAnswersAreNewMemory: what is done to an answer changes no datagram, none that was doubled from it, and no other answer.
func TestAnswersAreNewMemory(t *testing.T) {
	for _, n := range []int{1, 3, 8, 33, 2047} {
		b := bytes.Repeat([]byte{7}, n)
		w := way(t, 8, b, b)
		doubles(t, w, 0, api.OK)
		doubles(t, w, 2, api.OK)
		first, _ := w.Look(0)
		second, _ := w.Look(0)
		spoil(first)
		if !bytes.Equal(second, b) {
			t.Errorf("P1101: two answers of Look share memory")
		}
		holds(t, w, b, b, b, b)
		taken, _ := w.Take(0)
		spoil(taken)
		holds(t, w, b, b, b)
		taken, _ = w.Take(1)
		spoil(taken)
		holds(t, w, b, b)
		if !bytes.Equal(second, b) {
			t.Errorf("P1101: answers of Look and Take share memory")
		}
		turns(t, w, 0, 0, 1, api.OK)
		turned, _ := w.Look(0)
		x := bytes.Clone(turned)
		spoil(turned)
		holds(t, w, x, b)
		if !bytes.Equal(second, b) {
			t.Errorf("P1101: a Turn changes an answer")
		}
	}
}

// TestTurnLeavesAnswersAlone: what Look answered ahead of a Turn stays as it was.
func TestTurnLeavesAnswersAlone(t *testing.T) {
	w := way(t, 2, []byte{0})
	b, _ := w.Look(0)
	turns(t, w, 0, 0, 1, api.OK)
	if !bytes.Equal(b, []byte{0}) {
		t.Errorf("P1101: an answer became %x", b)
	}
}

func heap() uint64 {
	runtime.GC()
	runtime.GC()
	var m runtime.MemStats
	runtime.ReadMemStats(&m)
	return m.HeapAlloc
}

// TestNothingIsKept: of datagrams that were taken and dropped, however many there were, no more than a little is left.
func TestNothingIsKept(t *testing.T) {
	w := way(t, 1024)
	b := make([]byte, 2048)
	before := heap()
	for range 40 {
		for w.Len() < 1024 {
			puts(t, w, b, api.OK)
			turns(t, w, w.Len()-1, 0, 1, api.OK)
		}
		for w.Len() > 0 {
			if _, e := w.Take(w.Len() / 2); e != api.OK {
				t.Fatal(e)
			}
			if n := w.Len(); n > 0 { // the last one: nothing comes to lie over its place
				drops(t, w, n-1, api.OK)
			}
		}
	}
	if after := heap(); after > before+1<<18 {
		t.Errorf("%d bytes are kept for a way without datagrams", after-before)
	}
	runtime.KeepAlive(w)
}
