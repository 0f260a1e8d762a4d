package cutter_test

import (
	"bytes"
	"runtime"
	"slices"
	"testing"

	"halyard/api"
	"halyard/cutter"
)

// spoil: a list and the room behind it are written over.
func spoil(b []byte) {
	b = b[:cap(b)]
	for i := range b {
		b[i] ^= 0xff
	}
}

func alike(a, b [][]byte) bool { return slices.EqualFunc(a, b, bytes.Equal) }

func clone(l [][]byte) [][]byte {
	out := [][]byte{}
	for _, x := range l {
		out = append(out, bytes.Clone(x))
	}
	return out
}

// TestCutMemory: segments share nothing with the block, with each other, or with those of another Cut; the block, and the room behind it, stays as it was.
func TestCutMemory(t *testing.T) {
	for _, size := range []int{1, 5, 16, 33, 64, 1000} {
		for _, mtu := range []int{16, 17, 32, 333, 1024} {
			all := some(size + 40)
			was := bytes.Clone(all)
			block := all[:size]
			first := cuts(t, block, mtu)
			second := cuts(t, block, mtu)
			want := clone(second)
			for i := range first {
				spoil(first[i])
				if !alike(first[i+1:], want[i+1:]) {
					t.Fatalf("P1201: two segments of one Cut share memory")
				}
			}
			first = first[:cap(first)]
			clear(first)
			if !alike(second, want) {
				t.Fatalf("P1201: segments of two Cuts share memory")
			}
			if !bytes.Equal(all, was) {
				t.Fatalf("P1201: a block has changed")
			}
			spoil(block)
			if !alike(second, want) {
				t.Fatalf("P1201: a segment shares memory with its block")
			}
		}
	}
}

// TestArgumentsAreNotKept: what is done to a segment afterwards changes nothing of the box; it, and the room behind it, stays as it was.
func TestArgumentsAreNotKept(t *testing.T) {
	all := []byte("abcdefgh")
	b := box(t, 3)
	puts(t, b, 0, all[:3], api.OK)
	puts(t, b, 0, all[:3], api.ErrTwice)
	puts(t, b, 0, all[1:4], api.ErrShape)
	puts(t, b, 1, all[:2], api.ErrShape)
	puts(t, b, 2, all[6:7], api.OK)
	puts(t, b, 1, all[3:6], api.OK)
	if x, ok := b.Whole(); !ok || string(x) != "abcdefg" || string(all) != "abcdefgh" {
		t.Errorf("P1201: Whole = %q, %v, the segments stand in %q", x, ok, all)
	}
	spoil(all)
	isWhole(t, b, []byte("abcdefg")...)
	puts(t, b, 0, []byte("abc"), api.ErrTwice)
}

// TestAnswersAreNewMemory: what is done to an answer changes nothing of the box, and no other answer.
func TestAnswersAreNewMemory(t *testing.T) {
	for _, mtu := range []int{1, 3, 16, 64} {
		block := some(mtu*3 + 1)
		segments := cuts(t, block, mtu)
		b := box(t, 4)
		for _, i := range []int{1, 3} {
			puts(t, b, i, segments[i], api.OK)
		}
		first, second := b.Got(), b.Got()
		first = first[:cap(first)]
		for i := range first {
			first[i] = api.Range{From: -1, To: 70}
		}
		if !slices.Equal(second, []api.Range{{From: 1, To: 2}, {From: 3, To: 4}}) {
			t.Errorf("P1201: two answers of Got share memory: %v", second)
		}
		looks(t, b, 4, mtu, 1, 2, 3, 4)
		puts(t, b, 0, segments[0], api.OK)
		puts(t, b, 2, segments[2], api.OK)
		if !slices.Equal(second, []api.Range{{From: 1, To: 2}, {From: 3, To: 4}}) {
			t.Errorf("P1201: a Put changes an answer: %v", second)
		}
		x, _ := b.Whole()
		y, _ := b.Whole()
		spoil(x)
		if !bytes.Equal(y, block) {
			t.Errorf("P1201: two answers of Whole share memory")
		}
		isWhole(t, b, block...)
	}
	b := box(t, 1)
	puts(t, b, 0, []byte{7, 8}, api.OK)
	x, _ := b.Whole()
	spoil(x)
	isWhole(t, b, 7, 8)
}

func heap() uint64 {
	runtime.GC()
	runtime.GC()
	var m runtime.MemStats
	runtime.ReadMemStats(&m)
	return m.HeapAlloc
}

// TestLittleIsKept: of what stood about the segments that were put, and of those that were refused, nothing is kept.
func TestLittleIsKept(t *testing.T) {
	before := heap()
	var boxes []*cutter.Box
	for range 100 {
		b := box(t, 64)
		for i := range 64 {
			great := make([]byte, 1<<16)
			puts(t, b, i, great[5:6], api.OK)
			puts(t, b, i, great[:700], api.ErrShape)
		}
		boxes = append(boxes, b)
	}
	if after := heap(); after > before+1<<20 {
		t.Errorf("P1201: %d bytes are kept for %d boxes", after-before, len(boxes))
	}
	runtime.KeepAlive(boxes)
}
