package ether_test

import (
	"encoding/binary"
	"math/rand"
	"testing"

	"halyard/api"
)

// TestEachComesOnce: of datagrams that are all unlike each comes as often as it was put and doubled, less what was dropped; a long run on a way that is often full.
func TestEachComesOnce(t *testing.T) {
	r := rand.New(rand.NewSource(11))
	w := way(t, 1024)
	due := map[uint32]int{} // how many of each are on the way
	here := func(i int) uint32 {
		b, e := w.Look(i)
		if e != api.OK || len(b) != 4 {
			t.Fatalf("P1107: Look(%d) = %x, %v", i, b, e)
		}
		return binary.LittleEndian.Uint32(b)
	}
	most := 0
	for n := range uint32(100000) {
		full := w.Len() == 1024
		want := api.OK
		if full {
			want = api.ErrFull
		}
		puts(t, w, binary.LittleEndian.AppendUint32(nil, n), want)
		if !full {
			due[n]++
		}
		i := r.Intn(w.Len())
		x := here(i)
		switch r.Intn(5) {
		case 0:
			if e := w.Double(i); e == api.OK {
				due[x]++
			} else if e != api.ErrFull || w.Len() != 1024 {
				t.Fatalf("P1105: Double(%d) of %d: %v", i, w.Len(), e)
			}
		case 1, 2:
			takes(t, w, i, binary.LittleEndian.AppendUint32(nil, x)...)
			due[x]--
		case 3:
			drops(t, w, i, api.OK)
			due[x]--
		}
		if due[x] < 0 {
			t.Fatalf("P1107: %d came more often than it was put and doubled", x)
		}
		most = max(most, w.Len())
	}
	if most != 1024 {
		t.Errorf("P1109: the way was never full: %d", most)
	}
	for w.Len() > 0 {
		x := here(0)
		takes(t, w, 0, binary.LittleEndian.AppendUint32(nil, x)...)
		due[x]--
	}
	for x, n := range due {
		if n != 0 {
			t.Fatalf("P1107: %d of %d never came", n, x)
		}
	}
}

// TestRefusedCallsChangeNothing: each call that is refused, on a way that is full, with turned ones and doubles.
func TestRefusedCallsChangeNothing(t *testing.T) {
	w := way(t, 3, []byte{8, 9})
	doubles(t, w, 0, api.OK)
	turns(t, w, 0, 0, 1, api.OK)
	doubles(t, w, 0, api.OK)
	for range 2 {
		puts(t, w, []byte{1}, api.ErrFull)
		puts(t, w, make([]byte, 3000), api.ErrSize)
		doubles(t, w, 0, api.ErrFull)
		doubles(t, w, 3, api.ErrNone)
		drops(t, w, 3, api.ErrNone)
		turns(t, w, 0, 1, 1, api.ErrTwice)
		turns(t, w, 1, 15, 3, api.ErrArg)
		turns(t, w, 1, 0, 0, api.ErrArg)
		turns(t, w, 2, 1, 1, api.ErrTwice)
		turns(t, w, 3, 1, 1, api.ErrNone)
		if b, e := w.Take(-1); e != api.ErrNone || len(b) != 0 {
			t.Errorf("P1104: Take(-1) = %x, %v", b, e)
		}
		holds(t, w, []byte{9, 9}, []byte{8, 9}, []byte{9, 9})
	}
	turns(t, w, 1, 15, 1, api.OK) // a refused Turn was none
	holds(t, w, []byte{9, 9}, []byte{8, 137}, []byte{9, 9})
}
