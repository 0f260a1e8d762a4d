package world_test

import (
	"fmt"
	"math/rand"
	"runtime"
	"slices"
	"testing"
	"time"

	"halyard/api"
	"halyard/world"
)

// spoil: a list and the room behind it are written over.
func spoil(b []byte) {
	b = b[:cap(b)]
	for i := range b {
		b[i] ^= 0xff
	}
}

// spoilSeen: whatever can be reached from it.
func spoilSeen(x world.Seen) {
	for _, f := range x.Shown[:cap(x.Shown)] {
		spoil(f.Data)
	}
	spoil(x.Frame.Data)
	clear(x.Shown[:cap(x.Shown)])
	clear(x.Done[:cap(x.Done)])
	clear(x.Gaps[:cap(x.Gaps)])
}

// spoilWays: all that they tell.
func spoilWays(w *world.World) {
	for n := 1; n <= 2; n++ {
		for way := 1; way <= 2; way++ {
			l := w.Way(n, way)
			for _, b := range l[:cap(l)] {
				spoil(b)
			}
			clear(l[:cap(l)])
		}
	}
}

// script: steps that come to something, by chance.
func script(t *testing.T, s world.Setup, seed int64, length int) (l []world.Step) {
	t.Helper()
	r := rand.New(rand.NewSource(seed))
	w := fresh(t, s)
	l = opening(r)
	steps(t, w, l...)
	for range length {
		l = append(l, stroke(r, w))
		done(t, w, l[len(l)-1])
		for n := 1; n <= 2; n++ {
			if !w.Node(n).Up() && r.Intn(3) == 0 {
				l = append(l, crashes(n, someChoices(r)...), restarts(n))
				done(t, w, l[len(l)-2])
				done(t, w, l[len(l)-1])
			}
		}
	}
	return l
}

// TestNewMemory: what is done to answers, and to arguments behind the call, changes nothing of what comes later.
func TestNewMemory(t *testing.T) {
	for seed := range int64(20) {
		s := setup()
		s.Config.Mtu = 20
		told := func(ruins bool) (l []string) {
			w := fresh(t, s)
			for _, step := range script(t, s, seed, 150) {
				x := done(t, w, step)
				l = append(l, fmt.Sprint(x), all(w))
				if ruins {
					spoilSeen(x)
					spoilWays(w)
					spoil(step.Data)
					clear(step.Choices)
				}
			}
			return l
		}
		if a, b := told(false), told(true); !slices.Equal(a, b) {
			t.Error("P2001: what was done to answers and arguments has changed later answers")
		}
	}
}

// TestPlayedMemory: no two answers of a Play share anything.
func TestPlayedMemory(t *testing.T) {
	for seed := range int64(20) {
		l := script(t, setup(), seed, 150)
		a, v, e := world.Play(setup(), l)
		is(t, "P2005: Play", e, api.OK)
		b, w, e := world.Play(setup(), l)
		is(t, "P2005: Play", e, api.OK)
		before := all(v)
		for i := range a {
			if !same(a[i], b[i]) {
				t.Errorf("P2001: what is done to what came ahead of step %d has changed that", i)
			}
			spoilSeen(a[i])
			spoil(l[i].Data)
			clear(l[i].Choices)
		}
		spoilWays(v)
		if all(v) != before || all(w) != before {
			t.Error("P2001: what was done to the answers of a Play has changed its world")
		}
	}
}

// TestListsApart: what one list of an answer has behind it is no other one's.
func TestListsApart(t *testing.T) {
	w := begun(t, setup())
	for i := range uint64(5) {
		steps(t, w, sends(1, 3, 100+i, 50, "abc"))
	}
	row := w.Way(1, 1)
	want := w.Way(1, 1)
	for _, b := range row {
		_ = append(b, 1, 2, 3, 4, 5, 6, 7, 8)
	}
	if !slices.EqualFunc(row, want, slices.Equal) {
		t.Error("P2001: the datagrams of one answer share room")
	}
}

// TestArgumentsStay: what is handed in is as it was, the room behind it too.
func TestArgumentsStay(t *testing.T) {
	w := begun(t, setup())
	data := []byte("abc and more")
	choices := []int{1, -1, 7, 9}
	l := []world.Step{
		{Kind: world.Send, Node: 1, Stream: 3, Time: 100, Life: 50, Data: data[:3]}, cuts(1, 1), {Kind: world.Send, Node: 1, Stream: 3, Time: 100, Life: 50, Data: data[:5]},
		{Kind: world.Crash, Node: 1, Choices: choices[:3]}, restarts(1), ticks(60),
	}
	was := fmt.Sprint(l)
	for _, s := range l {
		done(t, w, s)
	}
	world.Play(setup(), l)
	if fmt.Sprint(l) != was || string(data) != "abc and more" || !slices.Equal(choices, []int{1, -1, 7, 9}) {
		t.Errorf("P2001: what was handed in is %+v, %s, %v now", l, data, choices)
	}
}

// TestNilAndEmpty: they mean the same.
func TestNilAndEmpty(t *testing.T) {
	v, w := begun(t, setup()), begun(t, setup())
	for _, s := range []world.Step{sends(1, 3, 100, 50, ""), delivers(1, 1, 0), cuts(2, 1), begins(2, 0), crashes(2), restarts(2)} {
		x, y := s, s
		x.Data, x.Choices = nil, nil
		y.Data, y.Choices = []byte{}, []int{}
		if a, b := done(t, v, x), done(t, w, y); !same(a, b) || all(v) != all(w) {
			t.Errorf("P2001: %+v with nil comes to %+v, with empty lists to %+v", s, a, b)
		}
	}
	a, v, e := world.Play(setup(), nil)
	b, w, f := world.Play(setup(), []world.Step{})
	if e != f || len(a)+len(b) > 0 || all(v) != all(w) {
		t.Errorf("P2005: Play of nil is %v, of no steps %v", e, f)
	}
}

// TestWorldsApart: one world knows nothing of another one.
func TestWorldsApart(t *testing.T) {
	alone := [2][]string{}
	together := [2][]string{}
	l := [2][]world.Step{script(t, setup(), 1, 100), script(t, setup(), 2, 100)}
	for i := range l {
		w := fresh(t, setup())
		for _, s := range l[i] {
			alone[i] = append(alone[i], fmt.Sprint(done(t, w, s)), all(w))
		}
	}
	w := [2]*world.World{fresh(t, setup()), fresh(t, setup())}
	for j := range max(len(l[0]), len(l[1])) {
		for i := range l {
			if j < len(l[i]) {
				together[i] = append(together[i], fmt.Sprint(done(t, w[i], l[i][j])), all(w[i]))
			}
		}
	}
	for i := range l {
		if !slices.Equal(alone[i], together[i]) {
			t.Error("P2001: what a world answers hangs on another one")
		}
	}
}

// TestFewBytesAreKept: a world that goes on and on needs no more than at first.
func TestFewBytesAreKept(t *testing.T) {
	w := begun(t, setup())
	used := func() uint64 {
		var m runtime.MemStats
		runtime.GC()
		runtime.ReadMemStats(&m)
		return m.HeapAlloc
	}
	turn := func() {
		for _, s := range []world.Step{
			sends(1, 3, w.Now(), 30, "some data of a frame"), doubles(1, 1, 0), delivers(1, 1, 0), delivers(2, 2, 0), drops(1, 1, 0), ticks(15),
			sends(1, 3, w.Now(), 30, "lost"), turns(1, 1, 0, 3, 1), delivers(1, 1, 0), ticks(31), drops(1, 2, 0), drops(1, 2, 0), crashes(2), restarts(2), opens(2, 3), closes(2, 1),
		} {
			done(t, w, s)
		}
	}
	for range 200 {
		turn()
	}
	lie(t, w, [4]int{})
	before := used()
	for range 2000 {
		turn()
	}
	if behind := used(); behind > before+1<<20 {
		t.Errorf("P2001: %d bytes are used, and were %d before", behind, before)
	}
	runtime.KeepAlive(w)
}

// TestNoGoroutines: none goes on behind a call.
func TestNoGoroutines(t *testing.T) {
	before := runtime.NumGoroutine()
	for seed := range int64(5) {
		_, w, e := world.Play(setup(), script(t, setup(), seed, 200))
		is(t, "P2005: Play", e, api.OK)
		done(t, w, gaps(2, 0, 0, top))
	}
	for range 100 {
		if runtime.NumGoroutine() <= before {
			return
		}
		time.Sleep(time.Millisecond)
	}
	t.Errorf("P2001: %d goroutines run, and %d before", runtime.NumGoroutine(), before)
}
