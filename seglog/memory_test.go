package seglog_test

import (
	"bytes"
	"iter"
	"slices"
	"testing"

	"halyard/api"
	"halyard/disk"
	"halyard/seglog"
)

// spoil: writes over all that a list can reach.
func spoil(b []byte) {
	b = b[:cap(b)]
	for i := range b {
		b[i] = 0x5a
	}
}

func TestArgumentsStayAndAreNotKept(t *testing.T) {
	for _, size := range []int{0, 1, 103, 104, 105, 208, 300, 416} {
		d := formatted(t)
		l := open(t, d)
		want := letters(size)
		room := bytes.Repeat([]byte{0xa5}, size+500)
		copy(room, want)
		was := bytes.Clone(room)
		n, e := l.Append(room[:size])
		if n != 0 || e != api.OK {
			t.Fatalf("P5.4: Append = %d, %d", n, e)
		}
		if !bytes.Equal(room, was) {
			t.Error("P1: Append changed what it was given, or the room behind it")
		}
		spoil(room)
		reads(t, "P1: Append kept what it was given", l, 0, want, api.OK)
		is(t, "P5.5", l.Flush(), api.OK)
		reads(t, "P1: Append kept what it was given", open(t, d), 0, want, api.OK)
	}
}

func TestAnswersAreNew(t *testing.T) {
	d := formatted(t)
	l := open(t, d)
	rec := letters(250)
	appends(t, "P5.4", l, rec, 0, api.OK)
	appends(t, "P5.4", l, "b", 3, api.OK)
	x, _ := l.Read(0)
	y, _ := l.Read(0)
	spoil(x)
	if string(y) != rec {
		t.Error("P1: two answers of Read share memory")
	}
	spoil(y)
	reads(t, "P1: Read shares memory with the log", l, 0, rec, api.OK)

	var got [][]byte
	for range 2 {
		for _, rec := range l.Records(0) {
			got = append(got, rec)
		}
	}
	want := []string{rec, "b", rec, "b"}
	for i := range got {
		if string(got[i]) != want[i] {
			t.Errorf("P1: record %d of two rangings shares memory with one ahead of it", i)
		}
		spoil(got[i])
	}
	lists(t, "P1: Records share memory with the log", l, 0, pair{0, rec}, pair{3, "b"})
	for n, b := range l.Records(0) {
		if n == 3 && string(b) != "b" {
			t.Error("P1: a record was changed by writing over the one ahead of it")
		}
		spoil(b)
	}
}

// filled: a log with "a", two pieces, and "d".
func filled(t *testing.T) (*disk.Disk, *seglog.Log) {
	t.Helper()
	d := formatted(t)
	l := open(t, d)
	appends(t, "P5.4", l, "a", 0, api.OK)
	appends(t, "P5.4", l, two, 1, api.OK)
	appends(t, "P5.4", l, "d", 3, api.OK)
	is(t, "P5.5", l.Flush(), api.OK)
	return d, l
}

// What is changed while a ranging goes on changes nothing of it.
func TestChangedWhileRanging(t *testing.T) {
	all := []pair{{0, "a"}, {1, two}, {3, "d"}}
	changes := map[string]func(d *disk.Disk, l *seglog.Log){
		"Trim": func(d *disk.Disk, l *seglog.Log) { l.Trim(4) },
		"Trim and Append": func(d *disk.Disk, l *seglog.Log) {
			l.Trim(3)
			l.Append([]byte("new"))
			l.Trim(l.Next())
			l.Append([]byte(letters(400)))
		},
		"a fall":            func(d *disk.Disk, l *seglog.Log) { bringDown(t, d); l.Flush() },
		"a fall, a crash":   func(d *disk.Disk, l *seglog.Log) { bringDown(t, d); l.Flush(); d.Crash(nil) },
		"Format":            func(d *disk.Disk, l *seglog.Log) { seglog.Format(d, 1, 6) },
		"another's writing": func(d *disk.Disk, l *seglog.Log) { d.Write(4, make([]byte, 128)) },
		"an unreadable one": func(d *disk.Disk, l *seglog.Log) { tears(t, d, 6) },
	}
	for what, change := range changes {
		d, l := filled(t)
		var got []pair
		for n, rec := range l.Records(0) {
			if len(got) == 0 {
				change(d, l)
			}
			got = append(got, pair{n, string(rec)})
		}
		if !slices.Equal(got, all) {
			t.Errorf("P5.7: %s while it is ranged over: %.9v", what, got)
		}
	}
	// A record that is appended meanwhile comes in the next ranging.
	d := formatted(t)
	l := open(t, d)
	appends(t, "P5.4", l, "a", 0, api.OK)
	records := l.Records(0)
	for range records {
		appends(t, "P5.4", l, "b", 1, api.OK)
	}
	if l.Next() != 2 {
		t.Errorf("P5.7: Next %d behind a ranging over one record", l.Next())
	}
	lists(t, "P5.7", l, 0, pair{0, "a"}, pair{1, "b"})
}

func collect(records iter.Seq2[uint64, []byte]) (out []pair) {
	for n, rec := range records {
		out = append(out, pair{n, string(rec)})
	}
	return out
}

// An iterator tells what there is when a ranging over it begins, and again at each.
func TestRangingAnew(t *testing.T) {
	d := formatted(t)
	l := open(t, d)
	records := l.Records(1)
	tell := func(what string, want ...pair) {
		t.Helper()
		if got := collect(records); !slices.Equal(got, want) {
			t.Errorf("P5.7: %s: %.9v, want %.9v", what, got, want)
		}
	}
	tell("an empty log")
	appends(t, "P5.4", l, "a", 0, api.OK)
	tell("nothing from n on")
	appends(t, "P5.4", l, two, 1, api.OK)
	appends(t, "P5.4", l, "d", 3, api.OK)
	tell("from n on", pair{1, two}, pair{3, "d"})
	tell("again", pair{1, two}, pair{3, "d"})
	is(t, "P5.6", l.Trim(3), api.OK)
	tell("behind a Trim", pair{3, "d"})
	tears(t, d, 6)
	tell("unreadable")
	is(t, "P5.6", l.Trim(4), api.OK)
	appends(t, "P5.4", l, "e", 4, api.OK)
	tell("appended", pair{4, "e"})
	bringDown(t, d)
	tell("without power")
	d.Crash([]int{1})
	tell("behind a crash: the ranging without power has made it fall")
	is(t, "5.4", l.Flush(), api.ErrPower)
}

// A ranging may be left, and two may go on beside one another.
func TestRangingsThatAreLeft(t *testing.T) {
	_, l := filled(t)
	for leave := range 4 {
		seen := 0
		for range l.Records(0) {
			if seen == leave {
				break
			}
			seen++
		}
		if seen != min(leave, 3) {
			t.Errorf("P5.7: left behind %d: %d", leave, seen)
		}
	}
	next, stop := iter.Pull2(l.Records(0))
	defer stop()
	other, stopOther := iter.Pull2(l.Records(1))
	defer stopOther()
	a, _, _ := next()
	b, _, _ := other()
	c, rec, _ := next()
	if a != 0 || b != 1 || c != 1 || string(rec) != two {
		t.Errorf("P5.7: two rangings: %d, %d, %d", a, b, c)
	}
	other()
	if _, _, more := other(); more {
		t.Error("P5.7: a ranging that does not end")
	}
	if n, rec, more := next(); n != 3 || string(rec) != "d" || !more {
		t.Errorf("P5.7: two rangings: %d, %q", n, rec)
	}
}

// Two logs that were opened one behind the other share nothing but the disk.
func TestLogsStandApart(t *testing.T) {
	d, l := filled(t)
	other := open(t, d)
	is(t, "P5.6", other.Trim(3), api.OK)
	tells(t, "5.4: what a log knows", l, 1, 0, 4)
	tells(t, "5.4: what a log knows", other, 2, 3, 4)
	lists(t, "5.4", l, 0, pair{0, "a"}, pair{1, two}, pair{3, "d"})
	appends(t, "P5.4", other, "e", 4, api.OK)
	reads(t, "P5.7: its sector holds another number", l, 0, "", api.ErrLog)
	reads(t, "P5.7", l, 1, two, api.OK)
	reads(t, "P5.7", other, 4, "e", api.OK)
	is(t, "P5.6", l.Trim(1), api.OK)
	tells(t, "5.4", other, 2, 3, 5)
}

// The same calls give the same disk.
func TestTheSameAgain(t *testing.T) {
	tell := func() *disk.Disk {
		d, l := filled(t)
		l.Trim(3)
		l.Append([]byte(two))
		d.Crash([]int{0, 1})
		l = open(t, d)
		l.Append([]byte("z"))
		return d
	}
	alike(t, "P1: the same calls", tell(), tell())
}
