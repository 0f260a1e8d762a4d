package disk_test

import (
	"bytes"
	"math"
	"math/rand"
	"slices"
	"testing"

	"halyard/api"
	"halyard/disk"
)

// plain: a disk as section 4.1 tells it, for its own sake: lists that are gone through from the front.
type plain struct {
	sectors []plainSector
	down    bool
	hasFuse bool
	fuse    int
}

type plainSector struct {
	durable    []byte
	unreadable bool
	versions   [][]byte
}

func newPlain(n int) *plain {
	p := &plain{}
	for range n {
		p.sectors = append(p.sectors, plainSector{durable: text(0)})
	}
	return p
}

func (s plainSector) present() (b []byte, has bool) {
	if n := len(s.versions); n > 0 {
		return s.versions[n-1], true
	}
	return s.durable, !s.unreadable
}

// operation: P4.5.
func (p *plain) operation() bool {
	if !p.hasFuse {
		return true
	}
	if p.fuse == 0 {
		p.down, p.hasFuse = true, false
		return false
	}
	p.fuse--
	return true
}

func (p *plain) read(i int) ([]byte, api.Errno) {
	if i < 0 || i >= len(p.sectors) {
		return nil, api.ErrArg
	}
	if p.down {
		return nil, api.ErrPower
	}
	b, has := p.sectors[i].present()
	if !has {
		return nil, api.ErrTorn
	}
	return b, api.OK
}

func (p *plain) write(i int, b []byte) api.Errno {
	if i < 0 || i >= len(p.sectors) || len(b) != 128 {
		return api.ErrArg
	}
	if p.down || !p.operation() {
		return api.ErrPower
	}
	p.sectors[i].versions = append(p.sectors[i].versions, bytes.Clone(b))
	return api.OK
}

func (p *plain) flush() api.Errno {
	if p.down || !p.operation() {
		return api.ErrPower
	}
	for i, s := range p.sectors {
		if len(s.versions) > 0 {
			b, _ := s.present()
			p.sectors[i] = plainSector{durable: b}
		}
	}
	return api.OK
}

func (p *plain) cut(n int) {
	if !p.down {
		p.hasFuse, p.fuse = n >= 0, n
	}
}

func (p *plain) crash(choices []int) {
	for i, s := range p.sectors {
		if len(s.versions) == 0 {
			continue
		}
		c := 0
		if len(choices) > 0 {
			c, choices = choices[0], choices[1:]
		}
		after := plainSector{unreadable: true}
		for v, b := range s.versions {
			if v+1 == c {
				after = plainSector{durable: b}
			}
		}
		if c == 0 {
			after = plainSector{durable: s.durable, unreadable: s.unreadable}
		}
		p.sectors[i] = after
	}
	p.down, p.hasFuse = false, false
}

func (p *plain) dirty() (sectors, versions []int) {
	for i, s := range p.sectors {
		if n := len(s.versions); n > 0 {
			sectors, versions = append(sectors, i), append(versions, n)
		}
	}
	return sectors, versions
}

func (p *plain) image() (b []byte) {
	for _, s := range p.sectors {
		if s.unreadable {
			b = append(append(b, 1), make([]byte, 128)...)
		} else {
			b = append(append(b, 0), s.durable...)
		}
	}
	return b
}

// call: one that changes something.
type call struct {
	kind    byte
	i, n    int
	b       []byte
	choices []int
}

func (c call) onDisk(d *disk.Disk) api.Errno {
	switch c.kind {
	case 'w':
		return d.Write(c.i, c.b)
	case 'f':
		return d.Flush()
	case 'c':
		d.Cut(c.n)
	case 'x':
		d.Crash(c.choices)
	}
	return api.OK
}

func (c call) onPlain(p *plain) api.Errno {
	switch c.kind {
	case 'w':
		return p.write(c.i, c.b)
	case 'f':
		return p.flush()
	case 'c':
		p.cut(c.n)
	case 'x':
		p.crash(c.choices)
	}
	return api.OK
}

// someText: a text; now and then one that begins or ends with zeros.
func someText(r *rand.Rand) []byte {
	b := make([]byte, 128)
	switch r.Intn(4) {
	case 0:
		b[r.Intn(128)] = byte(1 + r.Intn(255))
	default:
		r.Read(b)
	}
	return b
}

func someChoices(r *rand.Rand) []int {
	odd := []int{-1, math.MinInt, math.MaxInt, 99}
	var out []int
	for range r.Intn(7) {
		c := r.Intn(4)
		if r.Intn(8) == 0 {
			c = odd[r.Intn(len(odd))]
		}
		out = append(out, c)
	}
	return out
}

// someCall: mostly writes, few of them wrong.
func someCall(r *rand.Rand, sectors int) call {
	switch k := r.Intn(20); {
	case k < 12:
		return call{kind: 'w', i: r.Intn(sectors), b: someText(r)}
	case k < 13:
		wrong := []int{-1, sectors, math.MinInt, math.MaxInt}
		return call{kind: 'w', i: wrong[r.Intn(len(wrong))], b: someText(r)}
	case k < 14:
		sizes := []int{0, 1, 127, 129, 256}
		return call{kind: 'w', i: r.Intn(sectors), b: make([]byte, sizes[r.Intn(len(sizes))])}
	case k < 16:
		return call{kind: 'f'}
	case k < 18:
		fuses := []int{math.MinInt, -2, -1, 0, 1, 2, 3, 5, 8, math.MaxInt}
		return call{kind: 'c', n: fuses[r.Intn(len(fuses))]}
	}
	return call{kind: 'x', choices: someChoices(r)}
}

// like: the disk answers all that can be asked as the plain one.
func like(t *testing.T, d *disk.Disk, p *plain) {
	t.Helper()
	if d.Sectors() != len(p.sectors) || d.Down() != p.down {
		t.Fatalf("P4.3: Sectors = %d, Down = %v, want %d, %v", d.Sectors(), d.Down(), len(p.sectors), p.down)
	}
	a, b := d.Dirty()
	if x, y := p.dirty(); !slices.Equal(a, x) || !slices.Equal(b, y) {
		t.Fatalf("P4.3: Dirty = %v, %v, want %v, %v", a, b, x, y)
	}
	if !bytes.Equal(d.Image(), p.image()) {
		t.Fatalf("P4.2: Image is another one")
	}
	for i := -1; i <= len(p.sectors); i++ {
		x, e := d.Read(i)
		if y, f := p.read(i); e != f || !bytes.Equal(x, y) {
			t.Fatalf("P4.4: Read(%d) = %.4v.., %d, want %.4v.., %d", i, x, e, y, f)
		}
	}
}

func TestAgainstPlain(t *testing.T) {
	r := rand.New(rand.NewSource(1))
	for range 250 {
		n := 1 + r.Intn(9)
		d, p := fresh(t, n), newPlain(n)
		like(t, d, p)
		for range 60 {
			c := someCall(r, n)
			if e, f := c.onDisk(d), c.onPlain(p); e != f {
				t.Fatalf("P4.5 to P4.9: %c: %d, want %d", c.kind, e, f)
			}
			like(t, d, p)
		}
	}
}
