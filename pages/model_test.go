package pages_test

import (
	"maps"
	"math"
	"math/rand"
	"slices"
	"strconv"
	"strings"
	"testing"

	"halyard/api"
	"halyard/pages"
)

// plainEntry, plain: an index as the chapter's words tell it: lists that are gone through from the front.
type plainEntry struct {
	s api.Stamp
	v int
}

type plain struct {
	size  int
	pages [][]plainEntry
}

// pageOf: the last page whose first entry's stamp is not above s; page 0, if there is none.
func (p *plain) pageOf(s api.Stamp) (page int) {
	for i, l := range p.pages {
		if !s.Less(l[0].s) {
			page = i
		}
	}
	return page
}

func (p *plain) place(s api.Stamp) (page, entry int, ok bool) {
	if len(p.pages) == 0 {
		return 0, 0, false
	}
	page = p.pageOf(s)
	for _, e := range p.pages[page] {
		ok = ok || e.s == s
		if e.s.Less(s) {
			entry++
		}
	}
	return page, entry, ok
}

func (p *plain) put(s api.Stamp, v int) bool {
	for _, l := range p.pages {
		for i := range l {
			if l[i].s == s {
				l[i].v = v
				return false
			}
		}
	}
	if len(p.pages) == 0 {
		p.pages = [][]plainEntry{{{s, v}}}
		return true
	}
	k := p.pageOf(s)
	l := append(slices.Clone(p.pages[k]), plainEntry{s, v})
	slices.SortFunc(l, func(a, b plainEntry) int {
		if a.s.Less(b.s) {
			return -1
		}
		return 1
	})
	behind := slices.Clone(p.pages[k+1:])
	p.pages = append(p.pages[:k], l)
	if len(l) == p.size+1 {
		stay := (p.size + 1) / 2
		p.pages = append(p.pages[:k], slices.Clone(l[:stay]), slices.Clone(l[stay:]))
	}
	p.pages = append(p.pages, behind...)
	return true
}

func (p *plain) remove(s api.Stamp) (v int, ok bool) {
	k, i, ok := p.place(s)
	if !ok {
		return 0, false
	}
	v = p.pages[k][i].v
	p.pages[k] = slices.Delete(p.pages[k], i, i+1)
	half := p.size / 2
	has := func(page int) int { return len(p.pages[page]) }
	if has(k) == 0 {
		p.pages = slices.Delete(p.pages, k, k+1)
	} else if k+1 < len(p.pages) && has(k)+has(k+1) <= half {
		p.one(k)
	} else if k > 0 && has(k-1)+has(k) <= half {
		p.one(k - 1)
	}
	return v, true
}

// one: page k and the next one become one.
func (p *plain) one(k int) {
	p.pages[k] = append(p.pages[k], p.pages[k+1]...)
	p.pages = slices.Delete(p.pages, k+1, k+2)
}

func (p *plain) all() (out []plainEntry) { return slices.Concat(p.pages...) }

func (p *plain) counts() (out []int) {
	for _, l := range p.pages {
		out = append(out, len(l))
	}
	return out
}

// up, down: the entries from s on.
func (p *plain) up(s api.Stamp) (out []plainEntry) {
	for _, e := range p.all() {
		if !e.s.Less(s) {
			out = append(out, e)
		}
	}
	return out
}

func (p *plain) down(s api.Stamp) (out []plainEntry) {
	for _, e := range p.all() {
		if !s.Less(e.s) {
			out = append(out, e)
		}
	}
	slices.Reverse(out)
	return out
}

func collect(each func(func(api.Stamp, int) bool)) (out []plainEntry) {
	for s, v := range each {
		out = append(out, plainEntry{s, v})
	}
	return out
}

// looks: all that can be asked of a stamp.
func (p *plain) looks(t *testing.T, x *pages.Index[int], s api.Stamp) {
	t.Helper()
	page, entry, ok := p.place(s)
	place(t, "P705", x, s, page, entry, ok)
	want := 0
	if ok {
		want = p.pages[page][entry].v
	}
	if v, found := x.Get(s); v != want || found != ok {
		t.Fatalf("P705: Get(%v) = %d, %v, want %d, %v", s, v, found, want, ok)
	}
	up, down := p.up(s), p.down(s)
	if got := collect(x.Up(s)); !slices.Equal(got, up) {
		t.Fatalf("P706: Up(%v) = %v, want %v", s, got, up)
	}
	if got := collect(x.Down(s)); !slices.Equal(got, down) {
		t.Fatalf("P706: Down(%v) = %v, want %v", s, got, down)
	}
	least, v, ok := x.Least(s)
	firstIs(t, "P705: Least", plainEntry{least, v}, ok, up)
	greatest, v, ok := x.Greatest(s)
	firstIs(t, "P705: Greatest", plainEntry{greatest, v}, ok, down)
}

func firstIs(t *testing.T, what string, e plainEntry, ok bool, want []plainEntry) {
	t.Helper()
	var first plainEntry
	if len(want) > 0 {
		first = want[0]
	}
	if e != first || ok != (len(want) > 0) {
		t.Fatalf("%s: %v, %v, want %v", what, e, ok, first)
	}
}

// holds: Len, Pages, and what P707 says of every index.
func (p *plain) holds(t *testing.T, x *pages.Index[int], putsAlone bool) {
	t.Helper()
	counts, n, half := x.Pages(), x.Len(), p.size/2
	if !slices.Equal(counts, p.counts()) || n != len(p.all()) {
		t.Fatalf("P707: Len %d, Pages %v, want %d, %v", n, counts, len(p.all()), p.counts())
	}
	apart := true
	for i, c := range counts {
		if c < 1 || c > p.size || putsAlone && len(counts) > 1 && c < (p.size+1)/2 {
			t.Fatalf("P707: a page of %d: %v", c, counts)
		}
		apart = apart && (i == 0 || counts[i-1]+c > half)
	}
	if apart && len(counts) > 1+2*n/(half+1) {
		t.Fatalf("P707: %d pages for %d entries", len(counts), n)
	}
}

// call: Put (with a value) or Remove, of both; their answers must be the same.
type call struct {
	put bool
	s   api.Stamp
	v   int
}

func (c call) do(t *testing.T, x *pages.Index[int], p *plain) {
	t.Helper()
	if c.put {
		if got, want := x.Put(c.s, c.v), p.put(c.s, c.v); got != want {
			t.Fatalf("P703: Put(%v) = %v", c.s, got)
		}
		return
	}
	v, ok := x.Remove(c.s)
	if want, found := p.remove(c.s); v != want || ok != found {
		t.Fatalf("P704: Remove(%v) = %d, %v, want %d, %v", c.s, v, ok, want, found)
	}
}

// name: how the times lie in the pages.
func (p *plain) name() string {
	var b strings.Builder
	for _, l := range p.pages {
		for _, e := range l {
			b.WriteString(strconv.Itoa(int(e.s.Time)) + " ")
		}
		b.WriteString("| ")
	}
	return b.String()
}

// From the empty index on: every way in which so many stamps can come to lie in pages, and from each one every Put and every Remove.
func everyState(t *testing.T, size int, stamps uint64) (states int) {
	seen := map[string]bool{"": true}
	work := [][]call{nil}
	for ; len(work) > 0; work = work[1:] {
		states++
		for n := range 2 * stamps {
			c := call{put: n%2 == 0, s: at(1 + 2*(n/2)), v: len(work[0]) + 1}
			x, p := newIndex[int](t, size), &plain{size: size}
			for _, before := range work[0] {
				before.do(t, x, p)
			}
			c.do(t, x, p)
			p.holds(t, x, false)
			if name := p.name(); !seen[name] {
				seen[name] = true
				work = append(work, append(slices.Clone(work[0]), c))
				for s := range 2*stamps + 1 {
					p.looks(t, x, at(s))
				}
			}
		}
	}
	return states
}

func TestEveryState(t *testing.T) {
	for size, stamps := range map[int]uint64{4: 8, 5: 8, 6: 8, 7: 9, 8: 9} {
		if n := everyState(t, size, stamps); n < 1<<stamps {
			t.Errorf("P707: size %d: %d states: too few", size, n)
		}
	}
}

// someStamp: near others, so that the same ones come again; some at the ends.
func someStamp(r *rand.Rand, times int) api.Stamp {
	s := api.Stamp{Time: uint64(r.Intn(times)), Seq: uint64(r.Intn(3))}
	switch r.Intn(30) {
	case 0:
		s.Time = math.MaxUint64 - s.Time
	case 1:
		s.Seq = math.MaxUint64 - s.Seq
	case 2:
		s.Time, s.Seq = s.Time<<60, s.Seq<<62
	}
	return s
}

func TestAgainstPlain(t *testing.T) {
	r := rand.New(rand.NewSource(1))
	for size := 4; size <= 64; size++ {
		x, p := newIndex[int](t, size), &plain{size: size}
		times := 2 + r.Intn(3*size)
		for step := range 1200 {
			// It fills and empties by turns.
			c := call{put: r.Intn(10) < 2+6*(step/150%2), s: someStamp(r, times), v: step}
			c.do(t, x, p)
			p.holds(t, x, false)
			if step%3 == 0 {
				p.looks(t, x, someStamp(r, times))
				p.looks(t, x, c.s)
			}
		}
	}
}

func TestPutsAlone(t *testing.T) {
	r := rand.New(rand.NewSource(2))
	orders := map[string]func(i int) api.Stamp{
		"rising":  func(i int) api.Stamp { return at(uint64(i)) },
		"falling": func(i int) api.Stamp { return at(uint64(1000 - i)) },
		"inwards": func(i int) api.Stamp { return at(uint64(500 + (i%2*2-1)*(500-i))) },
		"any":     func(i int) api.Stamp { return someStamp(r, 300) },
	}
	for _, size := range []int{4, 5, 6, 7, 8, 15, 16, 63, 64} {
		for what, order := range orders {
			x, p := newIndex[int](t, size), &plain{size: size}
			for i := range 500 {
				call{put: true, s: order(i), v: i}.do(t, x, p)
				p.holds(t, x, true)
			}
			if got := collect(x.Up(bottom)); !slices.Equal(got, p.all()) {
				t.Errorf("P707: %s, size %d", what, size)
			}
		}
	}
}

// The same calls on a plain map of stamps leave the same entries, whatever the size.
func TestAgainstMap(t *testing.T) {
	r := rand.New(rand.NewSource(3))
	for range 60 {
		m := map[api.Stamp]int{}
		var all []*pages.Index[int]
		for _, size := range []int{4, 5, 9, 31, 64} {
			all = append(all, newIndex[int](t, size))
		}
		for step := range 600 {
			s := someStamp(r, 80)
			v, there := m[s]
			put := r.Intn(5) < 3
			if put {
				m[s] = step
			} else {
				delete(m, s)
			}
			for _, x := range all {
				if put && x.Put(s, step) == there {
					t.Fatalf("P707: Put(%v)", s)
				}
				if put {
					continue
				}
				if got, ok := x.Remove(s); got != v || ok != there {
					t.Fatalf("P707: Remove(%v) = %d, %v", s, got, ok)
				}
			}
		}
		for _, x := range all {
			if got := maps.Collect(x.Up(bottom)); !maps.Equal(got, m) || x.Len() != len(m) {
				t.Fatalf("P707: %d entries, want %d", x.Len(), len(m))
			}
		}
	}
}
