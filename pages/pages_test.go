package pages_test

import (
	"math"
	"slices"
	"testing"

	"halyard/api"
	"halyard/pages"
)

// at: the stamp {t, 0}.
func at(t uint64) api.Stamp { return api.Stamp{Time: t} }

var (
	bottom = api.Stamp{}
	top    = api.Stamp{Time: math.MaxUint64, Seq: math.MaxUint64}
)

func newIndex[V any](t *testing.T, size int) *pages.Index[V] {
	t.Helper()
	x, e := pages.New[V](size)
	if x == nil || e != api.OK {
		t.Fatalf("P702: New(%d) = %v, %d", size, x, e)
	}
	return x
}

// with: an index of size 4 with these times; the value of each is ten times as much.
func with(t *testing.T, times ...uint64) *pages.Index[int] {
	t.Helper()
	x := newIndex[int](t, 4)
	for _, n := range times {
		puts(t, "P703", x, n, true)
	}
	return x
}

func puts(t *testing.T, what string, x *pages.Index[int], n uint64, want bool) {
	t.Helper()
	if got := x.Put(at(n), 10*int(n)); got != want {
		t.Errorf("%s: Put(%d) = %v", what, n, got)
	}
}

func removes(t *testing.T, what string, x *pages.Index[int], n uint64) {
	t.Helper()
	if v, ok := x.Remove(at(n)); v != 10*int(n) || !ok {
		t.Errorf("%s: Remove(%d) = %d, %v", what, n, v, ok)
	}
}

func shape[V any](t *testing.T, what string, x *pages.Index[V], want ...int) {
	t.Helper()
	if got := x.Pages(); !slices.Equal(got, want) {
		t.Errorf("%s: Pages = %v, want %v", what, got, want)
	}
}

func place[V any](t *testing.T, what string, x *pages.Index[V], s api.Stamp, page, entry int, ok bool) {
	t.Helper()
	if p, e, o := x.Place(s); p != page || e != entry || o != ok {
		t.Errorf("%s: Place(%v) = %d, %d, %v, want %d, %d, %v", what, s, p, e, o, page, entry, ok)
	}
}

// times: those that an iterator gives; their values must be as with gave them.
func times(t *testing.T, each func(func(api.Stamp, int) bool)) (out []uint64) {
	t.Helper()
	for s, v := range each {
		if s.Seq != 0 || v != 10*int(s.Time) {
			t.Errorf("P706: the value of %v is %d", s, v)
		}
		out = append(out, s.Time)
	}
	return out
}

func goes(t *testing.T, what string, got []uint64, want ...uint64) {
	t.Helper()
	if !slices.Equal(got, want) {
		t.Errorf("%s: %v, want %v", what, got, want)
	}
}

// sought: what Least or Greatest answered.
func sought(t *testing.T, what string, s api.Stamp, v int, ok bool, want uint64, found bool) {
	t.Helper()
	if !found {
		want = 0
	}
	if s != at(want) || v != 10*int(want) || ok != found {
		t.Errorf("P705: %s: %v, %d, %v, want %d, %v", what, s, v, ok, want, found)
	}
}

func least(t *testing.T, x *pages.Index[int], n, want uint64, found bool) {
	t.Helper()
	s, v, ok := x.Least(at(n))
	sought(t, "Least", s, v, ok, want, found)
}

func greatest(t *testing.T, x *pages.Index[int], n, want uint64, found bool) {
	t.Helper()
	s, v, ok := x.Greatest(at(n))
	sought(t, "Greatest", s, v, ok, want, found)
}

func TestNew(t *testing.T) {
	for _, size := range []int{3, 65, 2, 1, 0, -1, -4, -64, 128, math.MinInt, math.MaxInt} {
		if x, e := pages.New[string](size); x != nil || e != api.ErrArg {
			t.Errorf("P702: New(%d) = %v, %d", size, x, e)
		}
	}
	for size := 4; size <= 64; size++ {
		x := newIndex[int](t, size)
		shape(t, "P702", x)
		nothing(t, "P702", x)
	}
}

// nothing: an index without entries tells of none.
func nothing(t *testing.T, what string, x *pages.Index[int]) {
	t.Helper()
	for _, s := range []api.Stamp{bottom, at(3), top} {
		place(t, what, x, s, 0, 0, false)
		if v, ok := x.Get(s); v != 0 || ok {
			t.Errorf("%s: Get(%v) = %d, %v", what, s, v, ok)
		}
		if v, ok := x.Remove(s); v != 0 || ok {
			t.Errorf("%s: Remove(%v) = %d, %v", what, s, v, ok)
		}
		least, v, ok := x.Least(s)
		sought(t, what+": Least", least, v, ok, 0, false)
		greatest, v, ok := x.Greatest(s)
		sought(t, what+": Greatest", greatest, v, ok, 0, false)
		for range 2 {
			goes(t, what+": Up", times(t, x.Up(s)))
			goes(t, what+": Down", times(t, x.Down(s)))
		}
	}
	if x.Len() != 0 || len(x.Pages()) != 0 {
		t.Errorf("%s: Len %d, Pages %v", what, x.Len(), x.Pages())
	}
}

func TestNobodysIndex(t *testing.T) {
	for what, x := range map[string]*pages.Index[int]{"P701: nil": nil, "P701: not made": {}} {
		nothing(t, what, x)
		for _, s := range []api.Stamp{bottom, at(1), at(1), top} {
			if x.Put(s, 7) {
				t.Errorf("%s: Put(%v) is true", what, s)
			}
		}
		nothing(t, what, x)
	}
	if x := new(pages.Index[string]); x.Put(at(1), "a") || x.Len() != 0 {
		t.Error("P701: an index of texts that nobody made")
	}
}

func TestExamples(t *testing.T) {
	x := with(t, 1, 2, 3, 4)
	shape(t, "four", x, 4)
	puts(t, "P703", x, 5, true)
	shape(t, "a split", x, 2, 3)
	place(t, "P705", x, at(3), 1, 0, true)
	place(t, "P705", x, at(9), 1, 3, false)
	puts(t, "P703", x, 0, true)
	shape(t, "below all", x, 3, 3)
	place(t, "P705", x, at(0), 0, 0, true)
	for i, want := range [][]int{{2, 3}, {1, 3}, {1, 2}, {2}} {
		removes(t, "P704", x, []uint64{1, 2, 4, 5}[i])
		shape(t, "P704", x, want...)
	}
	least(t, x, 1, 3, true)
	greatest(t, x, 2, 0, true)
	least(t, x, 4, 0, false)
	puts(t, "P703", x, 3, false)
	shape(t, "3 again", x, 2)
	removes(t, "P704", x, 0)
	shape(t, "one", x, 1)
	removes(t, "P704", x, 3)
	shape(t, "none", x)
	place(t, "P705", x, at(3), 0, 0, false)
}

func TestPutReplaces(t *testing.T) {
	x := with(t, 1, 2, 3, 4, 5, 6, 7)
	shape(t, "seven", x, 2, 2, 3)
	for n := uint64(1); n <= 7; n++ {
		if x.Put(at(n), -int(n)) {
			t.Errorf("P703: %d is there, but Put is true", n)
		}
		for m := uint64(1); m <= 7; m++ {
			want := 10 * int(m)
			if m <= n {
				want = -int(m)
			}
			if v, ok := x.Get(at(m)); v != want || !ok {
				t.Errorf("P703: behind Put(%d): Get(%d) = %d, %v", n, m, v, ok)
			}
		}
		shape(t, "P703: a value alone", x, 2, 2, 3)
	}
	for n := uint64(1); n <= 7; n++ {
		if v, ok := x.Remove(at(n)); v != -int(n) || !ok {
			t.Errorf("P704: Remove(%d) = %d, %v", n, v, ok)
		}
	}
}

// A full page whose entry gets another value is not split.
func TestFullPageKeepsItsShape(t *testing.T) {
	for size := 4; size <= 64; size++ {
		x := newIndex[int](t, size)
		for n := range size {
			x.Put(at(uint64(n)), 0)
		}
		x.Put(at(2), 1)
		shape(t, "P703: full", x, size)
		x.Put(at(uint64(size)), 0)
		shape(t, "P703: one too many", x, (size+1)/2, size+1-(size+1)/2)
	}
}

// The entry that is one too many stands at each place of the page.
func TestSplitAtEachPlace(t *testing.T) {
	for n, want := range []api.Stamp{at(1), at(3), at(5), at(7), at(9)} {
		x := with(t, 2, 4, 6, 8)
		puts(t, "P703", x, want.Time, true)
		shape(t, "P703", x, 2, 3)
		all := []uint64{2, 4, 6, 8}
		all = slices.Insert(all, n, want.Time)
		goes(t, "P703: in order", times(t, x.Up(bottom)), all...)
		place(t, "P703", x, at(all[1]), 0, 1, true)
		place(t, "P703", x, at(all[2]), 1, 0, true)
	}
}

// A new page stands directly behind the one of which it came.
func TestSplitInTheMiddle(t *testing.T) {
	x := with(t, 10, 20, 30, 40, 50, 60, 70)
	shape(t, "three pages", x, 2, 2, 3)
	puts(t, "P703", x, 41, true)
	puts(t, "P703", x, 42, true)
	shape(t, "P703: in the page of 30", x, 2, 4, 3)
	puts(t, "P703", x, 43, true)
	shape(t, "P703: the middle one", x, 2, 2, 3, 3)
	puts(t, "P703", x, 5, true)
	puts(t, "P703", x, 29, true)
	shape(t, "P703: between two pages, into the one ahead", x, 4, 2, 3, 3)
	puts(t, "P703", x, 4, true)
	shape(t, "P703: the first one", x, 2, 3, 2, 3, 3)
	goes(t, "P703", times(t, x.Up(bottom)), 4, 5, 10, 20, 29, 30, 40, 41, 42, 43, 50, 60, 70)
}

func TestRemoveWhatIsNotThere(t *testing.T) {
	x := with(t, 1, 2, 3, 4, 6)
	for _, s := range []api.Stamp{bottom, at(5), at(7), {Time: 3, Seq: 1}, {Time: 2, Seq: math.MaxUint64}, top} {
		if v, ok := x.Remove(s); v != 0 || ok {
			t.Errorf("P704: Remove(%v) = %d, %v", s, v, ok)
		}
	}
	removes(t, "P704", x, 4)
	if v, ok := x.Remove(at(4)); v != 0 || ok {
		t.Errorf("P704: removed twice: %d, %v", v, ok)
	}
	shape(t, "P704", x, 2, 2)
	goes(t, "P704", times(t, x.Up(bottom)), 1, 2, 3, 6)
}

// eight: an index of size 8 (half 4) whose pages have these numbers of entries: page p has the times from 4 p on.
func eight(t *testing.T, counts ...int) *pages.Index[int] {
	t.Helper()
	x := newIndex[int](t, 8)
	end := uint64(4*len(counts) + 1)
	for n := range end { // Puts that rise leave pages of 4, and a last one of 5
		puts(t, "P703", x, n, true)
	}
	var keep []uint64
	for n := range end {
		page := min(int(n/4), len(counts)-1)
		if int(n)-4*page < counts[page] {
			keep = append(keep, n)
		} else {
			removes(t, "P704", x, n)
		}
	}
	shape(t, "P704: the beginning", x, counts...)
	goes(t, "P704: the beginning", times(t, x.Up(bottom)), keep...)
	return x
}

func TestRemoveJoins(t *testing.T) {
	x := eight(t, 2, 3, 5) // the times 0 1 | 4 5 6 | 8 ..
	removes(t, "P704", x, 0)
	shape(t, "P704: both have 4: the one behind comes to it", x, 4, 5)
	goes(t, "P704", times(t, x.Up(bottom)), 1, 4, 5, 6, 8, 9, 10, 11, 12)

	x = eight(t, 2, 3, 5)
	removes(t, "P704", x, 5)
	shape(t, "P704: the one behind has too many: it comes to the one ahead", x, 4, 5)
	goes(t, "P704", times(t, x.Up(bottom)), 0, 1, 4, 6, 8, 9, 10, 11, 12)

	x = eight(t, 3, 3, 5)
	removes(t, "P704", x, 1)
	shape(t, "P704: both have 5", x, 2, 3, 5)

	x = eight(t, 1, 4, 2) // 0 | 4 5 6 7 | 8 9
	removes(t, "P704", x, 9)
	shape(t, "P704: 5 of the last two: more than half", x, 1, 4, 1)
	removes(t, "P704", x, 4)
	shape(t, "P704: 4 with the one behind, 4 with the one ahead: behind", x, 1, 4)
	place(t, "P704", x, at(5), 1, 0, true)
	removes(t, "P704", x, 5)
	shape(t, "P704: 4 with the one ahead", x, 4)
	goes(t, "P704", times(t, x.Up(bottom)), 0, 6, 7, 8)
}

// Only the page that lost an entry is looked at, and once.
func TestRemoveJoinsOnce(t *testing.T) {
	x := eight(t, 1, 4, 1, 4) // 0 | 4 .. 7 | 8 | 12 .. 15
	removes(t, "P704", x, 6)
	shape(t, "P704: with the one behind, and with no other one then", x, 1, 4, 4)
	x = eight(t, 1, 4, 1, 4)
	removes(t, "P704", x, 8)
	shape(t, "P704: an empty page goes; its neighbours stay", x, 1, 4, 4)

	x = eight(t, 1, 4, 1, 4, 1)
	removes(t, "P704", x, 8)
	shape(t, "P704: an empty page in the middle", x, 1, 4, 4, 1)
	removes(t, "P704", x, 0)
	shape(t, "P704: an empty page at the beginning", x, 4, 4, 1)
	removes(t, "P704", x, 16)
	shape(t, "P704: an empty page at the end", x, 4, 4)

	x = eight(t, 2, 4, 2) // 0 1 | 4 5 6 7 | 8 9
	for _, n := range []uint64{4, 5} {
		removes(t, "P704", x, n)
	}
	shape(t, "P704: 2 and 2 and 2: the one behind, not the one ahead too", x, 2, 4)

	x = eight(t, 2, 4, 2)
	for _, n := range []uint64{1, 9, 0} {
		removes(t, "P704", x, n)
	}
	shape(t, "P704: empty", x, 4, 1)
	removes(t, "P704", x, 8)
	shape(t, "P704: empty", x, 4)
}

func TestRemoveStepByStep(t *testing.T) {
	x := with(t, 1, 2, 3, 4, 5, 6, 7)
	shape(t, "P703", x, 2, 2, 3)
	removes(t, "P704", x, 1)
	removes(t, "P704", x, 7)
	shape(t, "P704", x, 1, 2, 2)
	removes(t, "P704", x, 5)
	shape(t, "P704", x, 1, 2, 1)
	removes(t, "P704", x, 3)
	shape(t, "P704: the one behind", x, 1, 2)
	removes(t, "P704", x, 4)
	shape(t, "P704: the one ahead", x, 2)
	goes(t, "P704", times(t, x.Up(bottom)), 2, 6)
}

func TestPlace(t *testing.T) {
	x := with(t, 10, 20, 30, 40, 50, 60, 70)
	shape(t, "three pages", x, 2, 2, 3)
	wants := []struct {
		s           api.Stamp
		page, entry int
		ok          bool
	}{
		{bottom, 0, 0, false}, {at(9), 0, 0, false}, {at(10), 0, 0, true}, {at(11), 0, 1, false},
		{at(20), 0, 1, true}, {at(29), 0, 2, false}, {api.Stamp{Time: 29, Seq: math.MaxUint64}, 0, 2, false},
		{at(30), 1, 0, true}, {api.Stamp{Time: 30, Seq: 1}, 1, 1, false}, {at(40), 1, 1, true}, {at(49), 1, 2, false},
		{at(50), 2, 0, true}, {at(70), 2, 2, true}, {at(71), 2, 3, false}, {top, 2, 3, false},
	}
	for _, w := range wants {
		place(t, "P705", x, w.s, w.page, w.entry, w.ok)
		if _, ok := x.Get(w.s); ok != w.ok {
			t.Errorf("P705: Get(%v): %v", w.s, ok)
		}
	}
	if x.Len() != 7 {
		t.Errorf("P705: Len = %d", x.Len())
	}
}

func TestLeastAndGreatest(t *testing.T) {
	x := with(t, 10, 20, 30, 40, 50)
	shape(t, "two pages", x, 2, 3)
	for n := uint64(0); n <= 60; n++ {
		up, down := (n+9)/10*10, n/10*10
		least(t, x, n, max(up, 10), up <= 50)
		greatest(t, x, n, min(down, 50), down >= 10)
	}
	if s, v, ok := x.Least(top); s != bottom || v != 0 || ok {
		t.Errorf("P705: Least above all: %v, %d, %v", s, v, ok)
	}
	if s, v, ok := x.Greatest(top); s != at(50) || v != 500 || !ok {
		t.Errorf("P705: Greatest above all: %v, %d, %v", s, v, ok)
	}
}

// Stamps are ordered by the time, then by the number; any two numbers are one.
func TestStamps(t *testing.T) {
	const most = math.MaxUint64
	order := []api.Stamp{
		{}, {Seq: 1}, {Seq: most}, {Time: 1}, {Time: 1, Seq: 2}, {Time: 1, Seq: most - 1}, {Time: 1, Seq: most},
		{Time: 1 << 48, Seq: 1 << 63}, {Time: 1 << 63}, {Time: 1<<63 + 1}, {Time: most}, {Time: most, Seq: 1}, {Time: most, Seq: most},
	}
	x := newIndex[int](t, 4)
	for i := range order {
		k := i * 5 % len(order)
		if !x.Put(order[k], k) || x.Put(order[k], k) {
			t.Errorf("P703: Put(%v)", order[k])
		}
	}
	for k, s := range order {
		i := k
		for got, v := range x.Up(s) {
			if got != order[i] || v != i {
				t.Fatalf("P706: Up(%v) gives %v, %d at place %d", s, got, v, i)
			}
			i++
		}
		if i != len(order) {
			t.Errorf("P706: Up(%v) ends ahead of %v", s, order[i])
		}
		i = k
		for got, v := range x.Down(s) {
			if got != order[i] || v != i {
				t.Fatalf("P706: Down(%v) gives %v, %d at place %d", s, got, v, i)
			}
			i--
		}
		if i != -1 {
			t.Errorf("P706: Down(%v) ends ahead of %v", s, order[i])
		}
	}
}

func TestUpAndDown(t *testing.T) {
	x := with(t, 10, 20, 30, 40, 50, 60, 70)
	all := []uint64{10, 20, 30, 40, 50, 60, 70}
	for n := uint64(0); n <= 80; n++ {
		var up, down []uint64
		for _, m := range all {
			if m >= n {
				up = append(up, m)
			} else {
				down = append(down, m)
			}
		}
		if n%10 == 0 && n >= 10 && n <= 70 {
			down = append(down, n)
		}
		slices.Reverse(down)
		for range 2 {
			goes(t, "P706: Up", times(t, x.Up(at(n))), up...)
			goes(t, "P706: Down", times(t, x.Down(at(n))), down...)
		}
	}
	goes(t, "P706: Up", times(t, x.Up(top)))
	goes(t, "P706: Down", times(t, x.Down(top)), 70, 60, 50, 40, 30, 20, 10)
}

func TestEndsWhereTheLoopEnds(t *testing.T) {
	x := with(t, 1, 2, 3, 4, 5, 6, 7, 8, 9)
	for n := 1; n <= 9; n++ {
		for what, each := range map[string]func(func(api.Stamp, int) bool){"Up": x.Up(bottom), "Down": x.Down(top)} {
			calls := 0
			each(func(api.Stamp, int) bool {
				calls++
				return calls < n
			})
			if calls != n {
				t.Errorf("P706: %s goes on behind the loop's end: %d, %d", what, calls, n)
			}
		}
	}
	if x.Len() != 9 {
		t.Error("P706: a loop that ended changed the index")
	}
}
