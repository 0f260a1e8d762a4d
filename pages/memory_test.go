package pages_test

import (
	"iter"
	"maps"
	"math/rand"
	"runtime"
	"slices"
	"testing"
	"weak"

	"halyard/api"
	"halyard/pages"
)

func TestPagesIsANewList(t *testing.T) {
	x := with(t, 1, 2, 3, 4, 5)
	a, b := x.Pages(), x.Pages()
	for i := range a[:cap(a)] {
		a[:cap(a)][i] = 99
	}
	if !slices.Equal(b, []int{2, 3}) {
		t.Errorf("P705: two answers of Pages share memory: %v", b)
	}
	shape(t, "P705: Pages shares memory with the index", x, 2, 3)
	puts(t, "P703", x, 6, true)
	if !slices.Equal(b, []int{2, 3}) {
		t.Errorf("P705: an answer of Pages changed: %v", b)
	}
}

// whileRanging: what is done to an index of 1 to 9 in the midst of a ranging, at the time n.
func whileRanging(t *testing.T) map[string]func(x *pages.Index[int], n uint64) {
	all := []uint64{1, 2, 3, 4, 5, 6, 7, 8, 9}
	return map[string]func(x *pages.Index[int], n uint64){
		"other values": func(x *pages.Index[int], n uint64) {
			for _, m := range all {
				x.Put(at(m), -1)
			}
		},
		"this one's value": func(x *pages.Index[int], n uint64) { x.Put(at(n), -1) },
		"this one goes":    func(x *pages.Index[int], n uint64) { x.Remove(at(n)) },
		"the next one goes": func(x *pages.Index[int], n uint64) {
			x.Remove(at(n + 1))
			x.Remove(at(n - 1))
		},
		"all go": func(x *pages.Index[int], n uint64) {
			for _, m := range all {
				x.Remove(at(m))
			}
		},
		"all go, others come": func(x *pages.Index[int], n uint64) {
			for _, m := range all {
				x.Remove(at(m))
				x.Put(api.Stamp{Time: m, Seq: 5}, -1)
			}
		},
		"new ones everywhere": func(x *pages.Index[int], n uint64) {
			for _, m := range all {
				x.Put(api.Stamp{Time: m, Seq: n}, -1)
			}
		},
		"new ones at the ends": func(x *pages.Index[int], n uint64) {
			x.Put(at(10+n), -1)
			x.Put(api.Stamp{Seq: n}, -1)
		},
		"gone and there again": func(x *pages.Index[int], n uint64) {
			for _, m := range all {
				x.Remove(at(m))
			}
			for _, m := range all {
				x.Put(at(m), -1)
			}
		},
		"another ranging": func(x *pages.Index[int], n uint64) {
			for s := range x.Down(top) {
				x.Remove(s)
			}
			for s := range x.Up(bottom) {
				t.Errorf("P706: %v is there", s)
			}
		},
	}
}

func TestChangedWhileRanging(t *testing.T) {
	for what, change := range whileRanging(t) {
		for from := uint64(0); from <= 10; from++ {
			for when := uint64(1); when <= 9; when++ {
				changed := func(x *pages.Index[int], each iter.Seq2[api.Stamp, int]) iter.Seq2[api.Stamp, int] {
					return func(yield func(api.Stamp, int) bool) {
						for s, v := range each {
							if s.Time == when {
								change(x, when)
							}
							if !yield(s, v) {
								return
							}
						}
					}
				}
				var up, down []uint64
				for n := uint64(1); n <= 9; n++ {
					if n >= from {
						up = append(up, n)
					}
					if n <= from {
						down = append([]uint64{n}, down...)
					}
				}
				x := with(t, 1, 2, 3, 4, 5, 6, 7, 8, 9)
				goes(t, "P706: Up: "+what, times(t, changed(x, x.Up(at(from)))), up...)
				x = with(t, 9, 1, 8, 2, 7, 3, 6, 4, 5)
				goes(t, "P706: Down: "+what, times(t, changed(x, x.Down(at(from)))), down...)
			}
		}
	}
}

// One iterator tells at each ranging what there is then.
func TestRangedOverAgain(t *testing.T) {
	x := newIndex[int](t, 4)
	up, down := x.Up(at(2)), x.Down(at(4))
	goes(t, "P706: Up", times(t, up))
	goes(t, "P706: Down", times(t, down))
	for n := uint64(1); n <= 6; n++ {
		puts(t, "P703", x, n, true)
	}
	goes(t, "P706: Up", times(t, up), 2, 3, 4, 5, 6)
	goes(t, "P706: Down", times(t, down), 4, 3, 2, 1)
	removes(t, "P704", x, 2)
	removes(t, "P704", x, 4)
	goes(t, "P706: Up", times(t, up), 3, 5, 6)
	goes(t, "P706: Down", times(t, down), 3, 1)
	for s := range up {
		x.Remove(s)
	}
	goes(t, "P706: Up", times(t, up))
	goes(t, "P706: Down", times(t, down), 1)
}

// Rangings side by side, each begun at a moment of its own.
func TestRangingsSideBySide(t *testing.T) {
	r := rand.New(rand.NewSource(4))
	for range 150 {
		x, p := newIndex[int](t, 4+r.Intn(5)), &plain{size: 1000}
		type ranging struct {
			next func() (api.Stamp, int, bool)
			want []plainEntry
		}
		var open []ranging
		for step := range 200 {
			call{put: r.Intn(3) > 0, s: someStamp(r, 20), v: step}.do(t, x, p)
			if step%7 == 0 {
				s, each := someStamp(r, 20), ranging{}
				var stop func()
				if r.Intn(2) == 0 {
					each.next, stop = iter.Pull2(x.Up(s))
					each.want = p.up(s)
				} else {
					each.next, stop = iter.Pull2(x.Down(s))
					each.want = p.down(s)
				}
				defer stop()
				open = append(open, each)
			}
			for i := range open {
				if step%7 != 0 && r.Intn(3) > 0 {
					continue
				}
				s, v, ok := open[i].next()
				firstIs(t, "P706: side by side", plainEntry{s, v}, ok, open[i].want)
				open[i].want = open[i].want[min(1, len(open[i].want)):]
			}
		}
	}
}

func TestIndexesStandApart(t *testing.T) {
	a, b := with(t, 1, 2, 3, 4, 5), with(t, 1, 2, 3, 4, 5)
	a.Put(at(1), -1)
	a.Remove(at(5))
	a.Put(at(9), 9)
	goes(t, "P1: two indexes share memory", times(t, b.Up(bottom)), 1, 2, 3, 4, 5)
	shape(t, "P1", b, 2, 3)
}

// sameCalls: what an index tells beside its values, behind calls that follow from the seed.
func sameCalls[V any](t *testing.T, values ...V) (out []any) {
	t.Helper()
	r := rand.New(rand.NewSource(5))
	x := newIndex[V](t, 5)
	for step := range 400 {
		s, v := someStamp(r, 15), values[step%len(values)]
		if r.Intn(3) > 0 {
			out = append(out, x.Put(s, v))
		} else {
			_, ok := x.Remove(s)
			out = append(out, ok)
		}
		s = someStamp(r, 15)
		page, entry, ok := x.Place(s)
		_, found := x.Get(s)
		least, _, has := x.Least(s)
		greatest, _, had := x.Greatest(s)
		out = append(out, x.Len(), page, entry, ok, found, least, has, greatest, had)
		for _, n := range x.Pages() {
			out = append(out, n)
		}
		for s := range x.Up(s) {
			out = append(out, s)
		}
		for s := range x.Down(s) {
			out = append(out, s)
		}
	}
	return out
}

func TestLooksAtNoValue(t *testing.T) {
	want := sameCalls(t, 1, 2, 3)
	all := map[string][]any{
		"the same ones":  sameCalls(t, 0),
		"texts":          sameCalls(t, "", "a"),
		"nothing":        sameCalls(t, struct{}{}),
		"lists":          sameCalls(t, nil, []int{1}),
		"functions":      sameCalls(t, func() {}, nil),
		"anything":       sameCalls[any](t, nil, 1, []int{2}, map[string]int{}, func() {}),
		"arrays":         sameCalls(t, [40]int{}, [40]int{1}),
		"pointers":       sameCalls(t, new(int), nil),
		"not a number":   sameCalls(t, 0/func() float64 { return 0 }()),
		"other indexes":  sameCalls(t, with(t, 1), nil),
		"indexes inside": sameCalls(t, pages.Index[string]{}),
	}
	for what, got := range all {
		if !slices.Equal(got, want) {
			t.Errorf("P701: the answers hang on the values: %s", what)
		}
	}
}

// A value is handed out as it was handed in: what it points to is the caller's.
func TestValuesAsTheyWere(t *testing.T) {
	x := newIndex[[]byte](t, 4)
	lists := map[api.Stamp][]byte{}
	for n := range uint64(9) {
		lists[at(n)] = append(make([]byte, 0, 40), byte(n))
		x.Put(at(n), lists[at(n)])
	}
	same := func(what string, s api.Stamp, v []byte) {
		t.Helper()
		if want := lists[s]; len(v) != 1 || cap(v) != 40 || &v[0] != &want[0] {
			t.Errorf("P701: %s: the value of %v is another one", what, s)
		}
	}
	for _, s := range slices.Collect(maps.Keys(lists)) {
		v, _ := x.Get(s)
		same("Get", s, v)
		l, v, _ := x.Least(s)
		same("Least", l, v)
		g, v, _ := x.Greatest(s)
		same("Greatest", g, v)
	}
	for s, v := range x.Up(bottom) {
		same("Up", s, v)
	}
	for s, v := range x.Down(top) {
		same("Down", s, v)
		v, _ = x.Remove(s)
		same("Remove", s, v)
	}
}

type thing [100]int

// keptAlone: of all things that were values just those of the stamps that are there are reached still.
func keptAlone(t *testing.T, had map[int]weak.Pointer[thing], there map[api.Stamp]int) {
	t.Helper()
	runtime.GC()
	kept := slices.Collect(maps.Values(there))
	for step, v := range had {
		if (v.Value() != nil) != slices.Contains(kept, step) {
			t.Errorf("P1: the value of step %d is kept, or lost: %v", step, v.Value() != nil)
		}
	}
}

// What is there no more is not kept, nor what a value was ahead of the last Put.
func TestKeepsNoMore(t *testing.T) {
	r := rand.New(rand.NewSource(6))
	x := newIndex[*thing](t, 4)
	had := map[int]weak.Pointer[thing]{}
	there := map[api.Stamp]int{}
	for step := range 600 {
		s := at(uint64(r.Intn(40)))
		if r.Intn(2) == 0 {
			v := new(thing)
			x.Put(s, v)
			had[step], there[s] = weak.Make(v), step
		} else {
			x.Remove(s)
			delete(there, s)
		}
		for range x.Up(s) {
			break
		}
		if step%10 == 0 {
			keptAlone(t, had, there)
		}
	}
	runtime.KeepAlive(x)
}
