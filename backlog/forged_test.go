package backlog_test

import (
	"maps"
	"math/rand"
	"slices"
	"strings"
	"testing"

	"halyard/api"
	"halyard/backlog"
	"halyard/table"
)

// Numbers as they lie in keys and values.
const (
	most      = "\xbf\xff\xff\xff\xff\xff\x7f"         // MaxNumber
	above     = "\xc0\x80\x80\x80\x80\x80\x00"         // one more
	wayAbove  = "\xc0\x80\x80\x80\x80\x80\x01"         // two more
	lastPlace = "\xc0\x80\x80\x80\x80\x80\x80\x80\x00" // 2^62
	pastPlace = "\xc0\x80\x80\x80\x80\x80\x80\x80\x01"
)

// forged: a table with these pairs: a key, a value, a key, and so on.
func forged(t *testing.T, pairs ...string) *table.Table {
	t.Helper()
	tb := openTable(t, formatted(t, 400))
	lay(t, tb, pairs...)
	return tb
}

// fits: a table with these pairs is in form; the backlog is answered, and the table is as it was.
func fits(t *testing.T, what string, pairs ...string) *backlog.Backlog {
	t.Helper()
	tb := forged(t, pairs...)
	was, unflushed := pairsOf(tb), tb.Unflushed()
	b, e := backlog.Open(tb)
	if b == nil || e != api.OK {
		t.Fatalf("P902: %s: Open = %v, %d", what, b, e)
	}
	if !maps.Equal(pairsOf(tb), was) || tb.Unflushed() != unflushed {
		t.Errorf("P902: %s: Open changed the table", what)
	}
	return b
}

// fitsNot: a table with these pairs is not in form.
func fitsNot(t *testing.T, what string, pairs ...string) {
	t.Helper()
	tb := forged(t, pairs...)
	was, unflushed := pairsOf(tb), tb.Unflushed()
	if b, e := backlog.Open(tb); b != nil || e != api.ErrTable {
		t.Errorf("P902: %s: Open = %v, %d, want ErrTable", what, b, e)
	}
	if !maps.Equal(pairsOf(tb), was) || tb.Unflushed() != unflushed {
		t.Errorf("P902: %s: Open changed the table", what)
	}
}

func TestTablesInForm(t *testing.T) {
	b := fits(t, "7: open, no stamp", "b\x00\x00", "\x01\x00")
	streams(t, "P902", b, 0)
	stands(t, "P902", b, 0, 0, nil)
	b = fits(t, "nothing but zeros", "b\x00\x07", "\x00\x00")
	streams(t, "P902", b)
	b = fits(t, "not open, with a stamp", "b\x00\x07", "\x00\x05\x09\x04")
	streams(t, "P902", b)
	stands(t, "P902", b, 7, 5, ref(at(9, 4)))
	b = fits(t, "a newest stamp of zeros", "b\x00\x03", "\x01\x01\x00\x00")
	stands(t, "P902", b, 3, 1, ref(at(0, 0)))
	b = fits(t, "the greatest numbers", "b\x00\x03", "\x01"+above+most+most)
	stands(t, "P902", b, 3, 1<<48, ref(at(1<<48-1, 1<<48-1)))
	refuses(t, "its numbers are at their end", b, 3, 1<<48-1, 1, nil, 0, api.ErrEnd)

	b = fits(t, "a frame with the newest stamp", "b\x00\x03", "\x01\x06\x09\x05", "b\x01\x03\x05", "\x01\x09\x02\x03abc")
	has(t, "P902", b, frame(3, 9, 5, 2, "abc"))
	has(t, "P902", fits(t, "a frame of a stream that is not open", "b\x00\x03", "\x00\x06\x09\x05", "b\x01\x03\x02", "\x01\x09\x02\x03abc"), frame(3, 9, 2, 2, "abc"))
	has(t, "P902", fits(t, "an older one with a greater number", "b\x00\x03", "\x00\x09\x09\x05", "b\x01\x03\x08", "\x01\x08\x00\x00"), frame(3, 8, 8, 0, ""))
	b = fits(t, "the greatest frame", "b\x00\x03", "\x01"+above+most+most, "b\x01\x03"+most, lastPlace+most+most+"\x84\x00"+strings.Repeat("x", 512))
	has(t, "P902", b, frame(3, 1<<48-1, 1<<48-1, 1<<48-1, strings.Repeat("x", 512)))
	b = fits(t, "places in any order", "b\x00\x03", "\x01\x06\x09\x05", "b\x00\x04", "\x01\x06\x09\x05",
		"b\x01\x03\x00", "\x05\x01\x01\x00", "b\x01\x03\x01", "\x01\x01\x01\x00", "b\x01\x04\x00", "\x81\x00\x01\x01\x00", "b\x01\x04\x02", "\x03\x01\x01\x00")
	has(t, "P902", b, frame(3, 1, 1, 1, ""), frame(4, 1, 2, 1, ""), frame(3, 1, 0, 1, ""), frame(4, 1, 0, 1, ""))
	fits(t, "other keys", "a", "\x01", "c", "\x01", "c\x00\x09", "\x05", "b\x00\x03", "\x01\x00")
}

func TestTablesNotInForm(t *testing.T) {
	const six = "\x01\x06\x09\x05" // open, six numbers, the newest stamp (9, 5)
	for what, pairs := range map[string][]string{
		"the byte alone":               {"b", ""},
		"the byte alone, with a value": {"b", "\x01\x00"},
		"another kind":                 {"b\x02\x00", "\x01\x00"},
		"a kind that is cut":           {"b\x80", "\x01\x00"},
		"a kind that is written long":  {"b\x80\x00\x03", "\x01\x00"},
		"a kind far above":             {"b\xff\xff\x03", "\x01\x00"},
		"no stream":                    {"b\x00", "\x01\x00"},
		"a stream that is cut":         {"b\x00\x83", "\x01\x00"},
		"a stream that is written long": {
			"b\x00\x80\x03", "\x01\x00"},
		"stream 8":                     {"b\x00\x08", "\x01\x00"},
		"stream 9":                     {"b\x00\x09", "\x01\x00"},
		"stream 128":                   {"b\x00\x81\x00", "\x01\x00"},
		"a byte behind a stream's key": {"b\x00\x03\x00", "\x01\x00"},

		"no value":                     {"b\x00\x03", ""},
		"open alone":                   {"b\x00\x03", "\x01"},
		"open, 2":                      {"b\x00\x03", "\x02\x00"},
		"open, written long":           {"b\x00\x03", "\x80\x01\x00"},
		"a next number that is long":   {"b\x00\x03", "\x01\x80\x00"},
		"a next number that is cut":    {"b\x00\x03", "\x01\x81"},
		"a next number above":          {"b\x00\x03", "\x01" + wayAbove + most + most},
		"a byte behind no stamp":       {"b\x00\x03", "\x01\x00\x00"},
		"7: a stamp with no number":    {"b\x00\x03", "\x01\x00\x03\x00"},
		"no stamp with a number":       {"b\x00\x03", "\x01\x01"},
		"half a stamp":                 {"b\x00\x03", "\x01\x01\x05"},
		"a byte behind the stamp":      {"b\x00\x03", "\x01\x01\x05\x00\x00"},
		"a stamp's time above":         {"b\x00\x03", "\x01\x01" + above + "\x00"},
		"a stamp's number at the next": {"b\x00\x03", "\x01\x01\x05\x01"},
		"a stamp's number above it":    {"b\x00\x03", "\x01\x03\x05\x09"},
		"a stamp's number above all":   {"b\x00\x03", "\x01" + above + "\x05" + above},

		"7: a frame without its stream":    {"b\x01\x00\x05", "\x01\x05\x0a\x00"},
		"a frame of another stream":        {"b\x00\x04", six, "b\x01\x03\x05", "\x01\x09\x02\x00"},
		"a frame of stream 8":              {"b\x00\x07", six, "b\x01\x08\x05", "\x01\x09\x02\x00"},
		"a frame without a stream":         {"b\x00\x03", six, "b\x01", "\x01\x09\x02\x00"},
		"a frame without a number":         {"b\x00\x03", six, "b\x01\x03", "\x01\x09\x02\x00"},
		"a frame's number that is cut":     {"b\x00\x03", six, "b\x01\x03\x85", "\x01\x09\x02\x00"},
		"a frame's number that is long":    {"b\x00\x03", six, "b\x01\x03\x80\x05", "\x01\x09\x02\x00"},
		"a byte behind a frame's key":      {"b\x00\x03", six, "b\x01\x03\x05\x00", "\x01\x09\x02\x00"},
		"a frame's number above all":       {"b\x00\x03", "\x01" + above + most + most, "b\x01\x03" + above, "\x01\x09\x02\x00"},
		"a frame's number at the next":     {"b\x00\x03", six, "b\x01\x03\x06", "\x01\x08\x02\x00"},
		"a frame's number above it":        {"b\x00\x03", six, "b\x01\x03\x07", "\x01\x08\x02\x00"},
		"a stamp above the newest, time":   {"b\x00\x03", six, "b\x01\x03\x05", "\x01\x0a\x02\x00"},
		"a stamp above the newest, number": {"b\x00\x03", "\x01\x07\x09\x05", "b\x01\x03\x06", "\x01\x09\x02\x00"},
		"a frame of a stream of zeros":     {"b\x00\x03", "\x01\x00", "b\x01\x03\x00", "\x01\x00\x00\x00"},

		"a frame's value of no bytes":      {"b\x00\x03", six, "b\x01\x03\x05", ""},
		"a place alone":                    {"b\x00\x03", six, "b\x01\x03\x05", "\x01"},
		"no life":                          {"b\x00\x03", six, "b\x01\x03\x05", "\x01\x09"},
		"no data":                          {"b\x00\x03", six, "b\x01\x03\x05", "\x01\x09\x02"},
		"data that is cut":                 {"b\x00\x03", six, "b\x01\x03\x05", "\x01\x09\x02\x03ab"},
		"a byte behind the data":           {"b\x00\x03", six, "b\x01\x03\x05", "\x01\x09\x02\x02abc"},
		"513 bytes":                        {"b\x00\x03", six, "b\x01\x03\x05", "\x01\x09\x02\x84\x01" + strings.Repeat("x", 513)},
		"place 0":                          {"b\x00\x03", six, "b\x01\x03\x05", "\x00\x09\x02\x00"},
		"a place above 2^62":               {"b\x00\x03", six, "b\x01\x03\x05", pastPlace + "\x09\x02\x00"},
		"a place that is written long":     {"b\x00\x03", six, "b\x01\x03\x05", "\x80\x01\x09\x02\x00"},
		"a time above all":                 {"b\x00\x03", "\x01\x06" + most + "\x05", "b\x01\x03\x05", "\x01" + above + "\x02\x00"},
		"a life above all":                 {"b\x00\x03", six, "b\x01\x03\x05", "\x01\x09" + above + "\x00"},
		"one place for two":                {"b\x00\x03", six, "b\x01\x03\x04", "\x07\x09\x02\x00", "b\x01\x03\x05", "\x07\x09\x02\x00"},
		"one place for two of two streams": {"b\x00\x03", six, "b\x00\x04", six, "b\x01\x03\x04", lastPlace + "\x09\x02\x00", "b\x01\x03\x05", "\x01\x09\x02\x00", "b\x01\x04\x02", lastPlace + "\x09\x02\x00"},
		"the last frame of many":           {"b\x00\x03", six, "b\x01\x03\x04", "\x07\x09\x02\x00", "b\x01\x03\x05", "\x08\x09\x02\x00", "b\x01\x07\x00", "\x09\x09\x02\x00"},
		"a key that is none behind all":    {"b\x00\x03", six, "b\x01\x03\x05", "\x01\x09\x02\x00", "b\xff", ""},
		"the greatest key":                 {"b" + strings.Repeat("\xff", 63), ""},
	} {
		fitsNot(t, what, pairs...)
		fitsNot(t, what+", and another stream", append(slices.Clone(pairs), "b\x00\x05", "\x01\x06\x09\x05", "b\x01\x05\x03", "\x81\x00\x09\x02\x00")...)
	}
}

// manyFrames: so many of stream 3, and its key.
func manyFrames(n int) (out []string) {
	out = []string{"b\x00\x03", "\x01\x81\x00\x09\x05"}
	for i := range n {
		out = append(out, "b\x01\x03"+string([]byte{byte(i)}), string([]byte{byte(i + 1)})+"\x01\x09\x00")
	}
	return out
}

func TestAtMostMaxPending(t *testing.T) {
	b := fits(t, "64 frames", manyFrames(64)...)
	if len(b.Keys()) != 64 {
		t.Errorf("P902: %d frames", len(b.Keys()))
	}
	refuses(t, "64 frames", b, 3, 9, 9, nil, 0, api.ErrFull)
	fitsNot(t, "65 frames", manyFrames(65)...)
	fitsNot(t, "100 frames", manyFrames(100)...)
	fits(t, "63 frames and one of another stream", append(manyFrames(63), "b\x00\x04", "\x01\x01\x09\x00", "b\x01\x04\x00", "\x81\x00\x09\x01\x00")...)
	fitsNot(t, "64 frames and one of another stream", append(manyFrames(64), "b\x00\x04", "\x01\x01\x09\x00", "b\x01\x04\x00", "\x81\x00\x09\x01\x00")...)
}

// The counters' ends: the last number and the last place are given, and nothing behind them.
func TestEnds(t *testing.T) {
	tb := forged(t, "b\x00\x03", "\x01"+most+"\x05\x00", "b\x00\x04", "\x01\x00")
	b := open(t, tb)
	takes(t, b, frame(3, 4, 1<<48-1, 9, "a"), 0, false)
	stands(t, "P904: the last number", b, 3, 1<<48, ref(at(5, 0)))
	lies(t, "P904: the last number", tb, "b\x00\x03=\x01"+above+"\x05\x00", "b\x00\x04=\x01\x00", "b\x01\x03"+most+"=\x01\x04\x09\x01a")
	refuses(t, "no number is left", b, 3, 4, 9, nil, 0, api.ErrEnd)
	refuses(t, "its life is over, too", b, 3, 4, 9, nil, 13, api.ErrExpired)
	stands(t, "P910", b, 3, 1<<48, ref(at(5, 0)))
	takes(t, b, frame(4, 4, 0, 9, "b"), 0, true) // another stream has some
	is(t, "P905", b.Done(key(3, 1<<48-1)), api.OK)
	refuses(t, "no number is left, ever", b, 3, 4, 9, nil, 0, api.ErrEnd)
	is(t, "P903", b.Cease(3), api.OK)
	is(t, "P903", b.Begin(3), api.OK)
	refuses(t, "no number is left, ever", open(t, tb), 3, 4, 9, nil, 0, api.ErrEnd)

	tb = forged(t, "b\x00\x03", "\x01\x01\x05\x00", "b\x00\x04", "\x01\x00", "b\x01\x03\x00", plainNumber(1<<62-1)+"\x05\x09\x00")
	b = open(t, tb)
	takes(t, b, frame(4, 4, 0, 9, "a"), 0, true)
	lies(t, "P904: the last place", tb, "b\x00\x03=\x01\x01\x05\x00", "b\x00\x04=\x01\x01\x04\x00", "b\x01\x03\x00="+plainNumber(1<<62-1)+"\x05\x09\x00", "b\x01\x04\x00="+lastPlace+"\x04\x09\x01a")
	refuses(t, "no place is left", b, 4, 5, 9, nil, 0, api.ErrEnd)
	refuses(t, "for no stream", b, 3, 5, 9, nil, 0, api.ErrEnd)
	has(t, "P910", b, frame(3, 5, 0, 9, ""), frame(4, 4, 0, 9, "a"))
	is(t, "P905: not the last one", b.Done(key(3, 0)), api.OK)
	refuses(t, "no place is left", b, 3, 5, 9, nil, 0, api.ErrEnd)
	is(t, "P905: the last one", b.Done(key(4, 0)), api.OK)
	takes(t, b, frame(3, 6, 1, 9, ""), 0, true)
	lies(t, "P904: the first place", tb, "b\x00\x03=\x01\x02\x06\x01", "b\x00\x04=\x01\x01\x04\x00", "b\x01\x03\x01=\x01\x06\x09\x00")

	full := manyFrames(64)
	full[1] = "\x01" + above + "\x09\x05"
	refuses(t, "ErrFull ahead of ErrEnd", fits(t, "64 frames", full...), 3, 4, 9, nil, 0, api.ErrFull)
}

// cutNumber: a number at the front of s, written as short as it can be.
func cutNumber(s string, most uint64) (n uint64, rest string, ok bool) {
	for i := range len(s) {
		if i == 0 && s[0] == 0x80 || n > 1<<56 {
			return 0, "", false
		}
		n = n<<7 + uint64(s[i]%128)
		if s[i] < 128 {
			return n, s[i+1:], n <= most
		}
	}
	return 0, "", false
}

// numbers: cuts one for each bound.
func numbers(s string, most ...uint64) (out []uint64, rest string, ok bool) {
	for _, m := range most {
		var n uint64
		if n, s, ok = cutNumber(s, m); !ok {
			return nil, "", false
		}
		out = append(out, n)
	}
	return out, s, true
}

// plainReadStream: a stream of its value; false, if that has no form.
func plainReadStream(v string) (s plainStream, ok bool) {
	n, rest, ok := numbers(v, 1, 1<<48)
	if !ok {
		return s, false
	}
	s = plainStream{open: n[0] == 1, lies: true, next: n[1]}
	if s.next == 0 {
		return s, rest == ""
	}
	if n, rest, ok = numbers(rest, 1<<48-1, 1<<48-1); !ok {
		return s, false
	}
	s.newest = ref(at(n[0], n[1]))
	return s, rest == "" && n[1] < s.next
}

func plainReadFrame(k, v string) (f plainFrame, ok bool) {
	of, rest, ok := numbers(k[1:], 1, 7, 1<<48-1)
	if !ok || rest != "" {
		return f, false
	}
	n, rest, ok := numbers(v, 1<<62, 1<<48-1, 1<<48-1, 512)
	if !ok || n[0] == 0 || n[3] != uint64(len(rest)) {
		return f, false
	}
	return plainFrame{frame(int(of[1]), n[1], of[2], n[2], rest), n[0]}, true
}

// plainOpen: the backlog that lies in these pairs; false, if they are not in form.
func plainOpen(pairs map[string]string) (p *plain, ok bool) {
	p = &plain{}
	for _, k := range slices.Sorted(maps.Keys(pairs)) {
		v := pairs[k]
		switch {
		case k[0] != 98:
		case len(k) == 3 && k[1] == 0 && k[2] < 8:
			if p.streams[k[2]], ok = plainReadStream(v); !ok {
				return nil, false
			}
		case len(k) > 1 && k[1] == 1:
			f, ok := plainReadFrame(k, v)
			if !ok {
				return nil, false
			}
			p.frames = append(p.frames, f)
		default:
			return nil, false
		}
	}
	places := map[uint64]int{}
	for _, f := range p.frames {
		places[f.place]++
		s := p.streams[f.frame.Stream]
		if f.frame.Stamp.Seq >= s.next || s.newest.Less(f.frame.Stamp) {
			return nil, false
		}
	}
	if len(places) != len(p.frames) || len(places) > 64 {
		return nil, false
	}
	slices.SortFunc(p.frames, func(a, b plainFrame) int {
		if a.place < b.place {
			return -1
		}
		return 1
	})
	return p, true
}

// opensAs: the table is opened just as the chapter says.
func opensAs(t *testing.T, tb *table.Table) bool {
	t.Helper()
	pairs := pairsOf(tb)
	p, fit := plainOpen(pairs)
	b, e := backlog.Open(tb)
	switch {
	case !fit && (b != nil || e != api.ErrTable), fit && (b == nil || e != api.OK):
		t.Fatalf("P902: Open of % x = %d, it is in form: %v", pairs, e, fit)
	case fit && backlogTells(b) != p.tells():
		t.Fatalf("P902: % x is opened as\n%s, want\n%s", pairs, backlogTells(b), p.tells())
	}
	return fit
}

// Every key and value with one byte another one, one more or one less.
func TestEveryByte(t *testing.T) {
	good := []string{"b\x00\x03", "\x01\x81\x00\x65\x03", "b\x01\x03\x02", "\x04\x65\x32\x03abc", "b\x01\x03\x7f", "\x05\x64\x81\x00\x00", "b\x00\x04", "\x00\x05\x81\x00\x04", "b\x01\x04\x04", "\x81\x00\x81\x00\x00\x00"}
	fit, not := 0, 0
	if !opensAs(t, forged(t, good...)) {
		t.Fatal("it is not in form")
	}
	check := func(i int, s string) {
		if s == "" && i%2 == 0 {
			return
		}
		bad := slices.Clone(good)
		if bad[i] = s; opensAs(t, forged(t, bad...)) {
			fit++
		} else {
			not++
		}
	}
	for i, s := range good {
		for at := range len(s) {
			for x := range 256 {
				check(i, s[:at]+string([]byte{byte(x)})+s[at+1:])
			}
			check(i, s[:at]+s[at+1:])
			check(i, s[:at])
			check(i, s[:at]+"\x00"+s[at:])
			check(i, s[:at]+"\x80"+s[at:])
			check(i, s[:at]+s[:at]+s[at:])
		}
		check(i, s+"\x00")
		check(i, s+s)
	}
	if fit < 2000 || not < 2000 {
		t.Errorf("%d are in form, %d are not", fit, not)
	}
}

// Tables that a backlog made, with a change that nobody would make.
func TestSomeForgery(t *testing.T) {
	r := rand.New(rand.NewSource(96))
	fit, not := 0, 0
	for range 40 {
		x := newPair(t, 300, false)
		for n := range 8 {
			x.do(call{name: "begin", stream: n})
		}
		for range 60 {
			x.do(someCall(r, x.plain, 8, 12, 20))
		}
		var keys, values []string
		for k, v := range x.tb.Walk(nil, nil) {
			keys, values = append(keys, string(k)), append(values, string(v))
		}
		for range 25 {
			i, j := r.Intn(len(keys)), r.Intn(len(keys))
			changes := []table.Change{
				{Key: []byte(keys[i]), Gone: true},
				{Key: []byte(keys[i]), Value: []byte(values[j])},
				{Key: []byte(keys[i][:2] + string([]byte{byte(r.Intn(9))}) + keys[i][3:]), Value: []byte(values[i])},
				{Key: []byte(keys[i][:len(keys[i])-1] + string([]byte{byte(r.Intn(9))})), Value: []byte(values[i])},
				{Key: []byte(keys[i]), Value: []byte(values[i][:1] + string([]byte{byte(r.Intn(14))}) + values[i][2:])},
			}
			is(t, "P6.3", x.tb.Commit(changes[r.Intn(5)]), api.OK)
			if opensAs(t, x.tb) {
				fit++
			} else {
				not++
			}
			is(t, "P6.3", x.tb.Commit(back(x.tb, keys, values)...), api.OK)
		}
	}
	if fit < 100 || not < 100 {
		t.Errorf("%d are in form, %d are not", fit, not)
	}
}

// back: the changes by which a table has these pairs again.
func back(tb *table.Table, keys, values []string) (out []table.Change) {
	for k := range tb.Walk(nil, nil) {
		if !slices.Contains(keys, string(k)) {
			out = append(out, table.Change{Key: k, Gone: true})
		}
	}
	for i, k := range keys {
		if v, ok := tb.Get([]byte(k)); !ok || string(v) != values[i] {
			out = append(out, table.Change{Key: []byte(k), Value: []byte(values[i])})
		}
	}
	return out
}
