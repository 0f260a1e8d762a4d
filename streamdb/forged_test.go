package streamdb_test

import (
	"maps"
	"math/rand"
	"slices"
	"strings"
	"testing"

	"halyard/api"
	"halyard/streamdb"
	"halyard/table"
)

// Pieces of keys and values: "df" and "ds" are 64 66 and 64 73.
const (
	heard   = "\x01\x02\x0a" // the quota {2, 10}
	no      = "\x00\x00\x00"
	fresh3  = heard + no + no
	most    = "\xbf\xff\xff\xff\xff\xff\x7f" // MaxNumber
	above   = "\xc0\x80\x80\x80\x80\x80\x00" // one more
	sevenFF = "\xff\xff\xff\xff\xff\xff\xff"
)

// stamped: a frame's key of stream 3.
func stamped(time, seq byte) string {
	return "df\x03\x00\x00\x00\x00\x00" + string([]byte{time}) + "\x00\x00\x00\x00\x00" + string([]byte{seq})
}

// forged: a table with these pairs: a key, a value, a key, and so on.
func forged(t *testing.T, pairs ...string) *table.Table {
	t.Helper()
	tb := openTable(t, formatted(t, 200))
	for i := 0; i < len(pairs); i += 2 {
		if e := tb.Commit(table.Change{Key: []byte(pairs[i]), Value: []byte(pairs[i+1])}); e != api.OK {
			t.Fatalf("P6.3: Commit of %x: %d", pairs[i], e)
		}
	}
	return tb
}

// fits: a table with these pairs is a database's; it is answered, and the table is as it was.
func fits(t *testing.T, what string, pairs ...string) *streamdb.DB {
	t.Helper()
	tb := forged(t, pairs...)
	live, unflushed := tb.Live(), tb.Unflushed()
	db, e := streamdb.Open(tb)
	if db == nil || e != api.OK {
		t.Fatalf("P802: %s: Open = %v, %d", what, db, e)
	}
	if tb.Live() != live || tb.Unflushed() != unflushed {
		t.Errorf("P802: %s: Open changed the table", what)
	}
	return db
}

// fitsNot: a table with these pairs is none.
func fitsNot(t *testing.T, what string, pairs ...string) {
	t.Helper()
	tb := forged(t, pairs...)
	live, unflushed := tb.Live(), tb.Unflushed()
	if db, e := streamdb.Open(tb); db != nil || e != api.ErrTable {
		t.Errorf("P802: %s: Open = %v, %d, want ErrTable", what, db, e)
	}
	if tb.Live() != live || tb.Unflushed() != unflushed {
		t.Errorf("P802: %s: Open changed the table", what)
	}
}

func TestTablesThatFit(t *testing.T) {
	db := fits(t, "a stream", "ds\x03", fresh3)
	if q, ok := db.Quota(3); q != quota(2, 10) || !ok {
		t.Errorf("P802: Quota = %v, %v", q, ok)
	}
	zeros(t, "P802", db, 2)
	db = fits(t, "marks alone", "ds\x00", no+"\x01\x05\x06"+no, "ds\x07", no+no+"\x01\x07\x08")
	marks(t, "P802", db, 0, ref(at(5, 6)), nil)
	marks(t, "P802", db, 7, nil, ref(at(7, 8)))
	db = fits(t, "the greatest marks", "ds\x00", no+"\x01"+most+most+"\x01"+most+most)
	marks(t, "P802", db, 0, ref(at(1<<48-1, 1<<48-1)), ref(at(1<<48-1, 1<<48-1)))
	fits(t, "the least quota", "ds\x03", "\x01\x01\x01"+no+no)
	fits(t, "the greatest quota", "ds\x03", "\x01\x40\x81\x80\x00"+no+no)
	fits(t, "a mark of zeros", "ds\x03", no+"\x01\x00\x00"+no)
	fits(t, "a floor of zeros", "ds\x03", no+no+"\x01\x00\x00")
	fits(t, "a floor above the high-water mark", "ds\x03", heard+"\x01\x01\x01\x01\x09\x09")

	db = fits(t, "frames at the quota", "ds\x03", heard+no+"\x01\x64\x00", stamped(100, 1), "\x32\x05abcde", stamped(100, 2), "\x00\x05fghij")
	b := frame(100, 2, "fghij")
	b.Life = 0
	has(t, "P802", db, 3, frame(100, 1, "abcde"), b)
	db = fits(t, "the greatest frame", "ds\x03", "\x01\x01\x84\x00"+no+no, "df\x03"+strings.Repeat("\xff", 12), most+"\x84\x00"+strings.Repeat("x", 512))
	has(t, "P802", db, 3, api.Frame{Stream: 3, Stamp: at(1<<48-1, 1<<48-1), Life: 1<<48 - 1, Data: []byte(strings.Repeat("x", 512))})
	fits(t, "other keys", "c", "\x01", "e", "\x01", "ds\x03", fresh3)
	fits(t, "the frames of two streams", "ds\x03", fresh3, "ds\x04", fresh3, stamped(100, 1), "\x32\x08abcdefgh", "df\x04"+stamped(100, 1)[3:], "\x32\x0aabcdefghij")
}

func TestTablesThatDoNotFit(t *testing.T) {
	frame1 := stamped(100, 1)
	for what, pairs := range map[string][]string{
		"the mark alone":                    {"d", ""},
		"the mark alone, with a value":      {"d", fresh3},
		"another kind":                      {"dt\x03", fresh3},
		"a kind above":                      {"d\xff\x03", fresh3},
		"no kind":                           {"d\x00", ""},
		"no stream":                         {"ds", fresh3},
		"a frame's without a stream":        {"df", "\x32\x00"},
		"stream 8":                          {"ds\x08", fresh3},
		"stream 255":                        {"ds\xff", fresh3},
		"a frame of stream 8":               {"ds\x07", fresh3, "df\x08" + frame1[3:], "\x32\x00"},
		"a longer key":                      {"ds\x03\x00", fresh3},
		"a stream's key as long as frames'": {"ds\x03" + frame1[3:], fresh3},
		"a frame's key as short as streams": {"ds\x03", fresh3, "df\x03", "\x32\x00"},
		"a shorter frame's key":             {"ds\x03", fresh3, frame1[:14], "\x32\x00"},
		"a longer frame's key":              {"ds\x03", fresh3, frame1 + "\x00", "\x32\x00"},
		"a frame's key with one number":     {"ds\x03", fresh3, frame1[:9], "\x32\x00"},

		"no value":                           {"ds\x03", ""},
		"a value that is cut":                {"ds\x03", fresh3[:8]},
		"a value without its marks":          {"ds\x03", heard},
		"a byte behind the value":            {"ds\x03", fresh3 + "\x00"},
		"nothing but zeros":                  {"ds\x03", no + no + no},
		"listened to, 2":                     {"ds\x03", "\x02\x02\x0a" + no + no},
		"not listened to, a count":           {"ds\x03", "\x00\x02\x00\x01\x01\x01" + no},
		"not listened to, bytes":             {"ds\x03", "\x00\x00\x0a\x01\x01\x01" + no},
		"not listened to, a quota":           {"ds\x03", "\x00\x02\x0a" + no + no},
		"a quota without a count":            {"ds\x03", "\x01\x00\x0a" + no + no},
		"a quota without bytes":              {"ds\x03", "\x01\x02\x00" + no + no},
		"a count of 65":                      {"ds\x03", "\x01\x41\x0a" + no + no},
		"16385 bytes":                        {"ds\x03", "\x01\x02\x81\x80\x01" + no + no},
		"the greatest count":                 {"ds\x03", "\x01" + most + "\x0a" + no + no},
		"the greatest bytes":                 {"ds\x03", "\x01\x02" + most + no + no},
		"a count above all":                  {"ds\x03", "\x01" + above + "\x0a" + no + no},
		"a high-water mark, 2":               {"ds\x03", heard + "\x02\x01\x01" + no},
		"a high-water mark, 0, with a time":  {"ds\x03", heard + "\x00\x01\x00" + no},
		"a high-water mark, 0, with a seq":   {"ds\x03", heard + "\x00\x00\x01" + no},
		"a high-water mark's time above all": {"ds\x03", heard + "\x01" + above + "\x01" + no},
		"a high-water mark's seq above all":  {"ds\x03", heard + "\x01\x01" + above + no},
		"a floor, 2":                         {"ds\x03", heard + no + "\x02\x01\x01"},
		"a floor, 0, with a time":            {"ds\x03", heard + no + "\x00\x01\x00"},
		"a floor, 0, with a seq":             {"ds\x03", heard + no + "\x00\x00\x01"},
		"a floor's time above all":           {"ds\x03", heard + no + "\x01" + above + "\x01"},
		"a floor's seq above all":            {"ds\x03", heard + no + "\x01\x01" + above},
		"a number that is written longer":    {"ds\x03", "\x80\x01\x02\x0a" + no + no},
		"the count is written longer":        {"ds\x03", "\x01\x80\x02\x0a" + no + no},
		"the last one is written longer":     {"ds\x03", heard + no + "\x01\x01\x80\x01"},
		"a number without an end":            {"ds\x03", heard + no + "\x01\x01\x81"},
		"a number of many bytes":             {"ds\x03", heard + no + "\x01\x01" + sevenFF + sevenFF + "\x7f"},

		"a frame, and no stream":            {frame1, "\x32\x00"},
		"a frame that nobody listens to":    {"ds\x03", no + "\x01\x05\x06" + no, frame1, "\x32\x00"},
		"a frame of another stream":         {"ds\x02", fresh3, frame1, "\x32\x00"},
		"too many frames":                   {"ds\x03", fresh3, frame1, "\x32\x00", stamped(100, 2), "\x32\x00", stamped(100, 3), "\x32\x00"},
		"too many bytes":                    {"ds\x03", fresh3, frame1, "\x32\x05abcde", stamped(100, 2), "\x32\x06abcdef"},
		"a frame of too many bytes":         {"ds\x03", fresh3, frame1, "\x32\x0babcdefghijk"},
		"a frame at the floor":              {"ds\x03", heard + no + "\x01\x64\x01", frame1, "\x32\x00"},
		"a frame below the floor":           {"ds\x03", heard + no + "\x01\x64\x02", frame1, "\x32\x00"},
		"a frame far below the floor":       {"ds\x03", heard + no + "\x01\x65\x00", frame1, "\x32\x00"},
		"one frame below the floor":         {"ds\x03", heard + no + "\x01\x64\x02", frame1, "\x32\x00", stamped(100, 3), "\x32\x00"},
		"a frame without a value":           {"ds\x03", fresh3, frame1, ""},
		"a frame without data":              {"ds\x03", fresh3, frame1, "\x32"},
		"a frame whose data are cut":        {"ds\x03", fresh3, frame1, "\x32\x03ab"},
		"a byte behind a frame":             {"ds\x03", fresh3, frame1, "\x32\x03abcd"},
		"a life that is written longer":     {"ds\x03", fresh3, frame1, "\x80\x32\x00"},
		"a length that is written longer":   {"ds\x03", fresh3, frame1, "\x32\x80\x00"},
		"a life above all":                  {"ds\x03", fresh3, frame1, above + "\x00"},
		"a life of many bytes":              {"ds\x03", fresh3, frame1, sevenFF + sevenFF + "\x7f\x00"},
		"513 bytes":                         {"ds\x03", "\x01\x02\x88\x00" + no + no, frame1, "\x32\x84\x01" + strings.Repeat("x", 513)},
		"the last frame of many":            {"ds\x03", fresh3, frame1, "\x32\x00", "df\x07" + frame1[3:], "\x32\x00"},
		"a key that is none behind all":     {"ds\x03", fresh3, frame1, "\x32\x00", "d\xff", ""},
		"a key that is none ahead of all":   {"d\x00", "", "ds\x03", fresh3, frame1, "\x32\x00"},
		"an empty one of the greatest keys": {"d" + strings.Repeat("\xff", 63), ""},
	} {
		fitsNot(t, what, pairs...)
		fitsNot(t, what+", and another stream", append(pairs, "ds\x05", fresh3)...)
	}
}

// cutNumber: a number at the front of s, MaxNumber at most, written as short as it can be.
func cutNumber(s string) (n uint64, rest string, ok bool) {
	for i := range len(s) {
		if i == 0 && s[0] == 0x80 || n > 1<<41 {
			return 0, "", false
		}
		n = n<<7 + uint64(s[i]%128)
		if s[i] < 128 {
			return n, s[i+1:], n <= 1<<48-1
		}
	}
	return 0, "", false
}

// nineNumbers: of a stream's value.
func nineNumbers(v string) (out [9]uint64, ok bool) {
	for i := range out {
		if out[i], v, ok = cutNumber(v); !ok {
			return out, false
		}
	}
	return out, v == ""
}

// plainReadStream: a stream of its value; false, if that has no form.
func plainReadStream(v string) (s plainStream, ok bool) {
	n, ok := nineNumbers(v)
	if !ok || n == [9]uint64{} {
		return s, false
	}
	for i := 0; i < 9; i += 3 {
		if n[i] > 1 || n[i] == 0 && (n[i+1] != 0 || n[i+2] != 0) {
			return s, false
		}
	}
	if n[0] == 1 {
		s.quota = &api.Quota{Count: int(n[1]), Bytes: int(n[2])}
	}
	if n[3] == 1 {
		s.high = ref(at(n[4], n[5]))
	}
	if n[6] == 1 {
		s.floor = ref(at(n[7], n[8]))
	}
	return s, n[0] == 0 || n[1] >= 1 && n[1] <= 64 && n[2] >= 1 && n[2] <= 16384
}

func plainReadFrame(k, v string) (f api.Frame, ok bool) {
	if len(k) != 15 {
		return f, false
	}
	f.Stream = int(k[2])
	for i := 3; i < 9; i++ {
		f.Stamp.Time = f.Stamp.Time<<8 + uint64(k[i])
		f.Stamp.Seq = f.Stamp.Seq<<8 + uint64(k[i+6])
	}
	life, v, good := cutNumber(v)
	size, v, ok := cutNumber(v)
	f.Life, f.Data = life, []byte(v)
	return f, good && ok && size == uint64(len(v)) && size <= 512
}

// plainOpen: the database that lies in these pairs; false, if they do not fit.
func plainOpen(pairs map[string]string) (p *plain, ok bool) {
	p = &plain{}
	var frames []api.Frame
	for _, k := range slices.Sorted(maps.Keys(pairs)) {
		switch {
		case k[0] != 0x64:
		case len(k) == 3 && k[1] == 0x73 && k[2] < 8:
			if p.streams[k[2]], ok = plainReadStream(pairs[k]); !ok {
				return nil, false
			}
		case len(k) > 2 && k[1] == 0x66 && k[2] < 8:
			f, ok := plainReadFrame(k, pairs[k])
			if !ok {
				return nil, false
			}
			frames = append(frames, f)
		default:
			return nil, false
		}
	}
	for _, f := range frames {
		s := &p.streams[f.Stream]
		s.frames = append(s.frames, f)
		if s.quota == nil || !s.holds() || s.floor != nil && !s.floor.Less(f.Stamp) {
			return nil, false
		}
	}
	return p, true
}

// opensAs: the table is opened just as the chapter says.
func opensAs(t *testing.T, tb *table.Table) bool {
	t.Helper()
	pairs := map[string]string{}
	for k, v := range tb.Walk(nil, nil) {
		pairs[string(k)] = string(v)
	}
	p, fit := plainOpen(pairs)
	db, e := streamdb.Open(tb)
	switch {
	case !fit && (db != nil || e != api.ErrTable), fit && (db == nil || e != api.OK):
		t.Fatalf("P802: Open of % x = %d, it fits: %v", pairs, e, fit)
	case fit && dbTells(db) != p.tells():
		t.Fatalf("P802: % x is opened as\n%s, want\n%s", pairs, dbTells(db), p.tells())
	}
	return fit
}

// Every key and value with one byte another one, one more or one less.
func TestEveryByte(t *testing.T) {
	good := []string{"ds\x03", heard + "\x01\x65\x01\x01\x64\x02", stamped(101, 1), "\x32\x03abc", stamped(103, 0), "\x81\x00\x00", "ds\x04", no + "\x01\x81\x00\x09" + no}
	fit, not := 0, 0
	check := func(i int, s string) {
		if s == "" && i%2 == 0 {
			return
		}
		bad := slices.Clone(good)
		if bad[i] = s; opensAs(t, forged(t, bad...)) {
			fit++
		} else {
			not++
		}
	}
	for i, s := range good {
		for at := range len(s) {
			for x := range 256 {
				check(i, s[:at]+string([]byte{byte(x)})+s[at+1:])
			}
			check(i, s[:at]+s[at+1:])
			check(i, s[:at])
			check(i, s[:at]+"\x00"+s[at:])
			check(i, s[:at]+"\x80"+s[at:])
			check(i, s[:at]+s[:at]+s[at:])
		}
		check(i, s+"\x00")
		check(i, s+s)
	}
	if fit < 3000 || not < 3000 {
		t.Errorf("%d fit, %d do not", fit, not)
	}
}

// Tables that a database made, with a change or two that nobody would make.
func TestSomeForgery(t *testing.T) {
	r := rand.New(rand.NewSource(86))
	fit, not := 0, 0
	for range 40 {
		x := newPair(t, 300, false)
		for range 60 {
			x.do(someCall(r, 8, 12, 3, 20))
		}
		var keys, values []string
		for k, v := range x.tb.Walk(nil, nil) {
			keys, values = append(keys, string(k)), append(values, string(v))
		}
		for range 25 {
			i, j := r.Intn(len(keys)), r.Intn(len(keys))
			changes := []table.Change{
				{Key: []byte(keys[i]), Gone: true},
				{Key: []byte(keys[i]), Value: []byte(values[j])},
				{Key: []byte(keys[i][:2] + string([]byte{byte(r.Intn(9))}) + keys[i][3:]), Value: []byte(values[i])},
				{Key: []byte(keys[i][:len(keys[i])-1] + string([]byte{byte(r.Intn(9))})), Value: []byte(values[i])},
			}
			is(t, "P6.3", x.tb.Commit(changes[r.Intn(4)]), api.OK)
			if opensAs(t, x.tb) {
				fit++
			} else {
				not++
			}
			is(t, "P6.3", x.tb.Commit(back(x.tb, keys, values)...), api.OK)
		}
	}
	if fit < 100 || not < 100 {
		t.Errorf("%d fit, %d do not", fit, not)
	}
}

// back: the changes by which a table has these pairs again.
func back(tb *table.Table, keys, values []string) (out []table.Change) {
	for k := range tb.Walk(nil, nil) {
		if !slices.Contains(keys, string(k)) {
			out = append(out, table.Change{Key: k, Gone: true})
		}
	}
	for i, k := range keys {
		if v, ok := tb.Get([]byte(k)); !ok || string(v) != values[i] {
			out = append(out, table.Change{Key: []byte(k), Value: []byte(values[i])})
		}
	}
	return out
}
