package table_test

import (
	"bytes"
	"iter"
	"slices"
	"strings"
	"testing"

	"halyard/api"
	"halyard/disk"
	"halyard/table"
)

// spoil: writes over all that a list can reach.
func spoil(b []byte) {
	b = b[:cap(b)]
	for i := range b {
		b[i] = 0x5a
	}
}

// roomy: a copy with room behind it.
func roomy(s string) []byte {
	b := bytes.Repeat([]byte{0xa5}, len(s)+300)
	return b[:copy(b, s)]
}

func TestArgumentsStayAndAreNotKept(t *testing.T) {
	d := formatted(t, 100)
	x := open(t, d)
	key, value, other := roomy("key"), roomy("value"), roomy("other")
	batch := make([]table.Change, 2, 5)
	batch[0] = table.Change{Key: key, Value: value}
	batch[1] = table.Change{Key: other, Value: value, Gone: true}
	all := [][]byte{bytes.Clone(key[:300]), bytes.Clone(value[:300]), bytes.Clone(other[:300])}
	is(t, "P6.3", x.Commit(batch...), api.OK)
	for i, b := range [][]byte{key, value, other} {
		if !bytes.Equal(b[:300], all[i]) {
			t.Errorf("P1: Commit changed list %d, or the room behind it", i)
		}
	}
	if len(batch) != 2 || string(batch[0].Key) != "key" || !batch[1].Gone || string(batch[1].Value) != "value" || batch[:5][2].Key != nil || batch[:5][4].Gone {
		t.Error("P1: Commit changed the changes")
	}
	spoil(key)
	spoil(value)
	spoil(other)
	clear(batch[:5])
	has(t, "P6.3: the lists are not kept", x, "key=value")
	is(t, "P6.4", x.Flush(), api.OK)
	has(t, "P6.3: the lists are not kept", open(t, d), "key=value")

	key = roomy("key")
	if v, ok := x.Get(key); string(v) != "value" || !ok || !bytes.Equal(key[:300], append([]byte("key"), bytes.Repeat([]byte{0xa5}, 297)...)) {
		t.Error("P1: Get changed what it was given")
	}
	spoil(key)
	has(t, "P1: Get", x, "key=value")
}

// The lists that Walk was given are not looked at when it is ranged over.
func TestBoundsAreNotKept(t *testing.T) {
	x := open(t, formatted(t, 100))
	is(t, "P6.3", x.Commit(put("a", "1"), put("b", "2"), put("c", "3"), put("d", "4")), api.OK)
	from, below := roomy("b"), roomy("d")
	pairs := x.Walk(from, below)
	spoil(from)
	spoil(below)
	for range 2 {
		var got []string
		for k, v := range pairs {
			got = append(got, string(k)+"="+string(v))
		}
		if !slices.Equal(got, []string{"b=2", "c=3"}) {
			t.Errorf("P1: Walk keeps its bounds: %q", got)
		}
	}
}

func TestAnswersAreNew(t *testing.T) {
	x := open(t, formatted(t, 100))
	long := letters(200)
	is(t, "P6.3", x.Commit(put("a", "one"), put("b", long), put("c", "")), api.OK)
	v, _ := x.Get([]byte("b"))
	w, _ := x.Get([]byte("b"))
	spoil(v)
	if string(w) != long {
		t.Error("P1: two answers of Get share memory")
	}
	spoil(w)
	has(t, "P1: Get shares memory with the table", x, "a=one", "b="+long, "c=")
	var lists [][]byte
	var was []string
	for range 2 {
		for k, v := range x.Walk(nil, nil) {
			lists = append(lists, k, v)
			was = append(was, string(k), string(v))
		}
	}
	for i := range lists {
		if string(lists[i]) != was[i] {
			t.Errorf("P1: list %d of two rangings shares memory with one ahead of it", i)
		}
		spoil(lists[i])
	}
	has(t, "P1: Walk shares memory with the table", x, "a=one", "b="+long, "c=")
	want := []string{"a", "one", "b", long, "c", ""}
	for k, v := range x.Walk(nil, nil) {
		if string(k) != want[0] || string(v) != want[1] {
			t.Error("P1: a pair was changed by writing over the one ahead of it")
		}
		want = want[2:]
		spoil(k)
		spoil(v)
	}
	// Also of what was read from the disk.
	d := formatted(t, 100)
	is(t, "P6.3", open(t, d).Commit(put("a", "one"), put("b", long), put("c", "")), api.OK)
	x = open(t, d)
	for k, v := range x.Walk(nil, nil) {
		spoil(k)
		spoil(v)
	}
	has(t, "P1", x, "a=one", "b="+long, "c=")
}

// What is changed while a ranging goes on changes nothing of it.
func TestChangedWhileRanging(t *testing.T) {
	changes := map[string]func(d *disk.Disk, x *table.Table){
		"Commit": func(d *disk.Disk, x *table.Table) {
			x.Commit(put("b", "new"), gone("c"), put("aa", "new"), put("e", "new"))
		},
		"all gone":     func(d *disk.Disk, x *table.Table) { x.Commit(gone("a"), gone("b"), gone("c"), gone("d")) },
		"the first":    func(d *disk.Disk, x *table.Table) { x.Commit(gone("a")) },
		"as it was":    func(d *disk.Disk, x *table.Table) { x.Commit(put("b", "new"), put("b", "2")) },
		"a fall":       func(d *disk.Disk, x *table.Table) { bringDown(t, d); x.Flush() },
		"a crash":      func(d *disk.Disk, x *table.Table) { d.Crash(nil) },
		"another Open": func(d *disk.Disk, x *table.Table) { open(t, d).Commit(gone("b")) },
		"a Format":     func(d *disk.Disk, x *table.Table) { table.Format(d, 0, 100) },
		"a checkpoint": func(d *disk.Disk, x *table.Table) {
			for range 200 {
				x.Commit(put("b", letters(700)))
			}
		},
	}
	for what, change := range changes {
		d := formatted(t, 100)
		x := open(t, d)
		is(t, "P6.3", x.Commit(put("a", "1"), put("b", "2"), put("c", "3"), put("d", "4")), api.OK)
		var got []string
		for k, v := range x.Walk(nil, nil) {
			if len(got) == 0 {
				change(d, x)
			}
			got = append(got, string(k)+string(v))
		}
		if strings.Join(got, " ") != "a1 b2 c3 d4" {
			t.Errorf("P6.5: %s while it is ranged over: %.99q", what, got)
		}
	}
}

// An iterator tells what there is when a ranging over it begins, and again at each.
func TestRangingAnew(t *testing.T) {
	d := formatted(t, 100)
	x := open(t, d)
	pairs := x.Walk([]byte("b"), []byte("d"))
	tell := func(what, want string) {
		t.Helper()
		got := ""
		for k, v := range pairs {
			got += string(k) + string(v)
		}
		if got != want {
			t.Errorf("P6.5: %s: %q, want %q", what, got, want)
		}
	}
	tell("an empty table", "")
	x.Commit(put("a", "1"), put("b", "2"), put("d", "4"))
	tell("a pair", "b2")
	tell("again", "b2")
	x.Commit(put("c", "3"), put("b", "9"))
	tell("one more", "b9c3")
	x.Commit(gone("b"))
	tell("one less", "c3")
	bringDown(t, d)
	x.Flush()
	tell("without power", "c3")
}

// A ranging may be left, and two may go on beside one another.
func TestRangingsThatAreLeft(t *testing.T) {
	x := open(t, formatted(t, 100))
	is(t, "P6.3", x.Commit(put("a", "1"), put("b", "2"), put("c", "3")), api.OK)
	for leave := range 5 {
		seen := 0
		for range x.Walk(nil, nil) {
			if seen == leave {
				break
			}
			seen++
		}
		if seen != min(leave, 3) {
			t.Errorf("P6.5: left behind %d: %d", leave, seen)
		}
	}
	next, stop := iter.Pull2(x.Walk(nil, nil))
	defer stop()
	other, stopOther := iter.Pull2(x.Walk([]byte("b"), nil))
	defer stopOther()
	a, _, _ := next()
	b, _, _ := other()
	c, v, _ := next()
	if string(a) != "a" || string(b) != "b" || string(c) != "b" || string(v) != "2" {
		t.Errorf("P6.5: two rangings: %q, %q, %q", a, b, c)
	}
	other()
	if _, _, more := other(); more {
		t.Error("P6.5: a ranging that does not end")
	}
}

// Two tables that were opened one behind the other share nothing but the disk.
func TestTablesStandApart(t *testing.T) {
	d := formatted(t, 100)
	x := open(t, d)
	is(t, "P6.3", x.Commit(put("a", "1")), api.OK)
	y := open(t, d)
	is(t, "P6.3", y.Commit(put("b", "2"), gone("a")), api.OK)
	has(t, "P1", x, "a=1")
	has(t, "P1", y, "b=2")
	tells(t, "P1", x, 1, 4, 929, 1, 2)
	tells(t, "P1", y, 1, 4, 929, 1, 3)
}

// The same calls give the same disk.
func TestTheSameAgain(t *testing.T) {
	tell := func() *disk.Disk {
		d := formatted(t, 100)
		x := open(t, d)
		for i := range 60 {
			x.Commit(put(string(rune('a'+i*7%26)), letters(i)), gone(string(rune('a'+i*11%26))), put(string(rune('A'+i*5%26)), ""))
		}
		return d
	}
	first := tell()
	for range 5 {
		alike(t, "P1: the same calls", tell(), first)
	}
}
