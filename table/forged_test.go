package table_test

import (
	"slices"
	"strings"
	"testing"

	"halyard/api"
	"halyard/disk"
	"halyard/seglog"
	"halyard/table"
)

// logWith: a disk whose log has these records.
func logWith(t *testing.T, size int, recs ...string) *disk.Disk {
	t.Helper()
	d := newDisk(t, size)
	is(t, "P5.2", seglog.Format(d, 0, size), api.OK)
	l := openLog(t, d)
	for i, rec := range recs {
		if _, e := l.Append([]byte(rec)); e != api.OK {
			t.Fatalf("P5.4: Append of record %d: %d", i, e)
		}
	}
	is(t, "P5.5", l.Flush(), api.OK)
	return d
}

// opens: the log with these records is a table with these pairs.
func opens(t *testing.T, what string, size int, recs []string, want ...string) *disk.Disk {
	t.Helper()
	d := logWith(t, size, recs...)
	x, e := table.Open(d, 0, size)
	if e != api.OK {
		t.Errorf("P6.2: %s: %d", what, e)
		return d
	}
	has(t, "P6.2: "+what, x, want...)
	if x.Unflushed() != 0 || x.Epoch() != 2 || x.Live()+x.Room() != plainCapacity(size) {
		t.Errorf("P6.2: %s: Unflushed %d, Epoch %d, Live %d, Room %d", what, x.Unflushed(), x.Epoch(), x.Live(), x.Room())
	}
	return d
}

// none: the log with these records is no table; its epoch is higher behind that, and nothing else has changed.
func none(t *testing.T, what string, size int, recs ...string) {
	t.Helper()
	d := logWith(t, size, recs...)
	x, e := table.Open(d, 0, size)
	if x != nil || e != api.ErrTable {
		t.Errorf("P6.2: %s: %v, %d, want ErrTable", what, x, e)
		return
	}
	l := openLog(t, d)
	var got []string
	for _, rec := range l.Records(0) {
		got = append(got, string(rec))
	}
	if l.Epoch() != 3 || !slices.Equal(got, recs) {
		t.Errorf("P6.2: behind ErrTable: %s: Epoch %d, %d records", what, l.Epoch(), len(got))
	}
}

// part: the record of a part.
func part(i, k int, body string) string { return "\x02" + plainNumber(i) + plainNumber(k) + body }

const empty = "\x02\x00\x01"

func list(pairs ...string) (s string) {
	for _, x := range pairs {
		s += plainList(x)
	}
	return s
}

func TestFirstRecords(t *testing.T) {
	opens(t, "no pairs", 100, []string{empty})
	opens(t, "a pair", 100, []string{part(0, 1, list("a", "x"))}, "a=x")
	opens(t, "no value", 100, []string{part(0, 1, list("a", ""))}, "a=")
	opens(t, "rising keys", 100, []string{part(0, 1, list("a", "1", "a\x00", "2", "b", "3", "\xff", "4"))}, "a=1", "a\x00=2", "b=3", "\xff=4")
	long := letters(64)
	opens(t, "the longest", 200, []string{part(0, 1, list(long, letters(1024)))}, long+"="+letters(1024))

	good := list("a", "x", "b", "y")
	none(t, "no record", 100)
	for what, rec := range map[string]string{
		"an empty record":                 "",
		"a mark alone":                    "\x02",
		"no number of parts":              "\x02\x00",
		"no parts":                        "\x02\x00\x00",
		"no parts, with pairs":            "\x02\x00\x00" + good,
		"two parts, and one of them":      "\x02\x00\x02" + good,
		"many parts":                      "\x02\x00\xff\xff\xff\xff\xff\x7f",
		"more parts than a number":        "\x02\x00\x81\x80\x80\x80\x80\x80\x80\x00",
		"part 1":                          "\x02\x01\x01" + good,
		"part 1 of 2":                     "\x02\x01\x02" + good,
		"a number that is written longer": "\x02\x80\x00\x01" + good,
		"so the number of parts":          "\x02\x00\x80\x01" + good,
		"a batch":                         plainBatch([]table.Change{put("a", "x")}),
		"another mark":                    "\x03\x00\x01" + good,
		"mark 0":                          "\x00\x00\x01" + good,
		"text alone":                      good,
		"a key without a value":           part(0, 1, good+list("c")),
		"a list that is cut":              part(0, 1, good[:len(good)-1]),
		"a byte behind the pairs":         part(0, 1, good+"\x00"),
		"an empty key":                    part(0, 1, list("", "x")),
		"an empty key behind another":     part(0, 1, good+list("", "x")),
		"a long key":                      part(0, 1, list(letters(65), "x")),
		"a key twice":                     part(0, 1, list("a", "x", "a", "x")),
		"falling keys":                    part(0, 1, list("b", "x", "a", "x")),
		"a shorter key behind a longer":   part(0, 1, list("aa", "x", "a", "x")),
		"a length that is written longer": part(0, 1, "\x01a\x80\x01x"),
	} {
		none(t, what, 100, rec)
		none(t, what+", and a good one behind it", 100, rec, empty)
	}
	none(t, "a long value", 200, part(0, 1, list("a", letters(1025))))
}

// someText: the text of a table, of so many bytes, and its pairs: values of 1000 bytes, and one more for the rest.
func someText(t *testing.T, bytes int) (text string, pairs []string) {
	t.Helper()
	for i := 0; bytes > 1027; i++ {
		k, v := "k"+string([]byte{byte(i / 26), byte('a' + i%26)}), letters(1000)
		text += list(k, v)
		pairs = append(pairs, k+"="+v)
		bytes -= 1006
	}
	v := bytes - 3
	if v >= 128 {
		v--
	}
	text += list("z", letters(v))
	return text, append(pairs, "z="+letters(v))
}

func TestFirstRecordsOfManyParts(t *testing.T) {
	for _, bytes := range []int{8109, 8110, 8111, 8112, 8113, 8114, 8300, 16224, 16225, 17000} {
		text, pairs := someText(t, bytes)
		recs := plainParts(text)
		if len(text) != bytes || len(recs) != (bytes+8111)/8112 {
			t.Fatalf("a text of %d bytes with %d parts", len(text), len(recs))
		}
		opens(t, "parts", 700, recs, pairs...)
		none(t, "a part is missing at the end", 700, recs[:len(recs)-1]...)
		none(t, "a part is missing at the beginning", 700, recs[1:]...)
		none(t, "one byte is missing", 700, append(slices.Clone(recs[:len(recs)-1]), recs[len(recs)-1][:len(recs[len(recs)-1])-1])...)
		none(t, "a part too many", 700, append(slices.Clone(recs), part(len(recs), len(recs), ""))...)
	}
	text, _ := someText(t, 16300)
	a, b, c := text[:8112], text[8112:16224], text[16224:]
	for what, recs := range map[string][]string{
		"parts in another order":        {part(1, 3, b), part(0, 3, a), part(2, 3, c)},
		"numbers in another order":      {part(0, 3, a), part(2, 3, b), part(1, 3, c)},
		"a number twice":                {part(0, 3, a), part(1, 3, b), part(1, 3, c)},
		"a record twice":                {part(0, 3, a), part(0, 3, a), part(1, 3, b), part(2, 3, c)},
		"more parts said later":         {part(0, 3, a), part(1, 4, b), part(2, 3, c)},
		"fewer parts said":              {part(0, 2, a), part(1, 2, b), part(2, 2, c)},
		"more parts said":               {part(0, 4, a), part(1, 4, b), part(2, 4, c)},
		"cut elsewhere":                 {part(0, 3, text[:8111]), part(1, 3, text[8111:16223]), part(2, 3, text[16223:])},
		"cut into too many":             {part(0, 4, a), part(1, 4, b), part(2, 4, c[:10]), part(3, 4, c[10:])},
		"an empty part at the end":      {part(0, 4, a), part(1, 4, b), part(2, 4, c), part(3, 4, "")},
		"too few, with a longer part":   {part(0, 2, a+b[:10]), part(1, 2, b[10:8122-30])},
		"a batch among them":            {part(0, 3, a), plainBatch([]table.Change{put("a", "x")}), part(1, 3, b), part(2, 3, c)},
		"a batch instead of one":        {part(0, 3, a), plainBatch([]table.Change{put("a", "x")}), part(2, 3, c)},
		"an empty record among them":    {part(0, 3, a), "", part(1, 3, b), part(2, 3, c)},
		"a part without its mark":       {part(0, 3, a), part(1, 3, b)[1:], part(2, 3, c)},
		"a part with another mark":      {part(0, 3, a), "\x01" + part(1, 3, b)[1:], part(2, 3, c)},
		"a part whose number is longer": {part(0, 3, a), "\x02\x80\x01\x03" + b, part(2, 3, c)},
		"a part of another table":       {part(0, 3, a), part(1, 3, a), part(2, 3, c)},
	} {
		none(t, what, 700, recs...)
	}
	// A text of just 8112 bytes has one part, not a second one without bytes.
	even, _ := someText(t, 8112)
	none(t, "an empty part behind a full one", 700, part(0, 2, even), part(1, 2, ""))
	// A part of more than 8112 bytes that would have room in a record.
	longer, _ := someText(t, 8150)
	none(t, "a part that is too long", 700, part(0, 1, longer))
}

func TestBatchesThatAreGoneThrough(t *testing.T) {
	base := part(0, 1, list("a", "x", "b", "y"))
	opens(t, "a batch", 100, []string{base, plainBatch([]table.Change{put("c", "z"), gone("a"), gone("q")})}, "b=y", "c=z")
	opens(t, "batches", 100, []string{base, plainBatch([]table.Change{gone("a"), gone("b")}), plainBatch([]table.Change{put("a", "1")}), plainBatch([]table.Change{put("a", "2")})}, "a=2")
	opens(t, "a long record of many that are gone", 100, []string{base, plainBatch(slices.Repeat([]table.Change{gone("a")}, 80))}, "b=y")
	opens(t, "the longest", 200, []string{base, plainBatch([]table.Change{put(letters(64), letters(1024))})}, "a=x", letters(64)+"="+letters(1024), "b=y")
	one := plainBatch([]table.Change{put("c", "z")})
	for what, rec := range map[string]string{
		"an empty record":                    "",
		"a mark alone":                       "\x01",
		"no changes":                         "\x01\x00",
		"no changes, and one":                "\x01\x00" + one[2:],
		"more changes than there are":        "\x01\x02" + one[2:],
		"fewer changes than there are":       "\x01\x01" + one[2:] + one[2:],
		"81 changes":                         plainBatch(slices.Repeat([]table.Change{gone("c")}, 81)),
		"the number is written longer":       "\x01\x80\x01" + one[2:],
		"a great number":                     "\x01\xff\x7f" + one[2:],
		"another mark":                       "\x03" + one[1:],
		"mark 0":                             "\x00" + one[1:],
		"a change of mark 2":                 "\x01\x01\x02" + one[3:],
		"a change of mark 2 without a value": "\x01\x01\x02\x01c",
		"a change without a key":             "\x01\x01\x01",
		"a change without a mark":            "\x01\x01",
		"a change without a value":           "\x01\x01\x01\x01c",
		"a value that is cut":                one[:len(one)-1],
		"a byte behind":                      one + "\x00",
		"an empty key":                       "\x01\x01\x01\x00\x01z",
		"an empty key, gone":                 "\x01\x01\x00\x00",
		"a long key":                         plainBatch([]table.Change{put(letters(65), "z")}),
		"a long key, gone":                   plainBatch([]table.Change{gone(letters(65))}),
		"a value of what is gone":            "\x01\x01\x00\x01c\x01z",
		"a length that is written longer":    "\x01\x01\x01\x80\x01c\x01z",
		"part 0 of another table":            empty,
		"part 0 of a table with more":        part(0, 1, list("a", "x", "b", "y", "c", "z")),
		"part 0, a byte behind it":           base + "\x00",
		"part 0 without its end":             base[:len(base)-1],
		"part 1":                             "\x02\x01" + base[2:],
		"part 0 of two":                      "\x02\x00\x02" + base[3:],
		"part 0 of none":                     "\x02\x00\x00" + base[3:],
		"part 0, its number written longer":  "\x02\x80\x00\x01" + base[3:],
	} {
		none(t, what, 100, base, rec)
		none(t, what+", behind a batch", 100, base, plainBatch([]table.Change{put("e", "")}), rec)
		none(t, what+", and a batch behind it", 100, base, rec, one)
	}
	none(t, "a long value", 200, base, plainBatch([]table.Change{put("c", letters(1025))}))
}

func TestAboveTheCapacity(t *testing.T) {
	at, _ := someText(t, 933)
	above, _ := someText(t, 934)
	opens(t, "at the capacity", 100, []string{part(0, 1, at)}, "z="+letters(929))
	none(t, "above the capacity at first", 100, part(0, 1, above))
	none(t, "above the capacity at first, not behind a batch", 100, part(0, 1, above), plainBatch([]table.Change{gone("z")}))
	opens(t, "at the capacity behind a batch", 100, []string{empty, plainBatch([]table.Change{put("z", letters(929))})}, "z="+letters(929))
	none(t, "above it behind a batch", 100, empty, plainBatch([]table.Change{put("z", letters(930))}))
	none(t, "above it behind a batch, not behind the next", 100, empty, plainBatch([]table.Change{put("z", letters(930))}), plainBatch([]table.Change{gone("z")}))
	opens(t, "above it within a batch alone", 100, []string{empty, plainBatch([]table.Change{put("z", letters(930)), gone("z"), put("y", "1")})}, "y=1")
}

// What a log holds behind an Open that ended its checkpoint: the checkpoint alone.
func ended(t *testing.T, what string, d *disk.Disk, first uint64, text string) {
	t.Helper()
	d.Crash(nil) // the checkpoint lasts
	l := openLog(t, d)
	var got []string
	for _, rec := range l.Records(0) {
		got = append(got, string(rec))
	}
	if l.First() != first || !slices.Equal(got, plainParts(text)) {
		t.Errorf("P6.2: %s: the log begins at %d, want %d, with %d records", what, l.First(), first, len(got))
	}
}

func TestCheckpointAtTheEnd(t *testing.T) {
	base := part(0, 1, list("a", "x"))
	both := list("a", "x", "b", "y")
	one := plainBatch([]table.Change{put("b", "y")})
	d := opens(t, "a whole checkpoint", 100, []string{base, one, part(0, 1, both)}, "a=x", "b=y")
	ended(t, "a whole checkpoint", d, 2, both)
	d = opens(t, "of what was there at first", 100, []string{base, base}, "a=x")
	ended(t, "of what was there at first", d, 1, list("a", "x"))
	d = opens(t, "of an empty table", 100, []string{base, plainBatch([]table.Change{gone("a")}), empty})
	ended(t, "of an empty table", d, 2, "")
	none(t, "a batch behind it", 100, base, one, part(0, 1, both), one)
	none(t, "it twice", 100, base, one, part(0, 1, both), part(0, 1, both))
	none(t, "part 1 of 1 behind it", 100, base, one, part(0, 1, both), part(1, 1, both))
	none(t, "an empty record behind it", 100, base, one, part(0, 1, both), "")
	none(t, "of the table ahead of the last batch", 100, base, one, part(0, 1, list("a", "x")))

	text, pairs := someText(t, 20000)
	parts := plainParts(text)
	first := uint64(plainCost(20000))
	for n := 1; n <= 3; n++ {
		d := opens(t, "parts of a checkpoint", 700, append(slices.Clone(parts), parts[:n]...), pairs...)
		ended(t, "parts of a checkpoint", d, first, text)
	}
	more := strings.Replace(text, "\x01z", "\x01y", 1) // the last key is another one
	for what, recs := range map[string][]string{
		"part 1 without 0":              {parts[1]},
		"part 2 behind 0":               {parts[0], parts[2]},
		"part 0 twice":                  {parts[0], parts[0]},
		"all, and part 0":               {parts[0], parts[1], parts[2], parts[0]},
		"all, and a batch":              {parts[0], parts[1], parts[2], one},
		"a batch among them":            {parts[0], one, parts[1], parts[2]},
		"a batch behind a part":         {parts[0], one},
		"a part of another table":       {parts[0], parts[1], plainParts(more)[2]},
		"a part that lacks a byte":      {parts[0], parts[1][:len(parts[1])-1]},
		"a part with a byte too many":   {parts[0], parts[1] + "\x00"},
		"a part of another cut":         {part(0, 3, text[:8000])},
		"a part of more parts":          {part(0, 4, text[:8112])},
		"an empty record behind a part": {parts[0], ""},
	} {
		none(t, what, 700, append(slices.Clone(parts), recs...)...)
	}
}

// The errors of ending a checkpoint are Open's, operation by operation; the next Open ends it.
func TestCheckpointThatIsNotEnded(t *testing.T) {
	text, pairs := someText(t, 8300)
	parts := plainParts(text)
	stand := func() *disk.Disk { return logWith(t, 420, append(slices.Clone(parts), parts[0])...) }
	// Open's head and its flush, part 1 with its two pieces, a flush, a head and its flush.
	const operations = 2 + 2 + 1 + 2
	for fuse := range operations + 1 {
		d := stand()
		d.Cut(fuse)
		x, e := table.Open(d, 0, 420)
		if fuse == operations && (x == nil || e != api.OK) || fuse < operations && (x != nil || e != api.ErrPower) {
			t.Errorf("P6.2: with power for %d operations: %v, %d", fuse, x, e)
		}
		d.Crash([]int{1, 1, 1})
		has(t, "P6.8", open(t, d), pairs...)
		ended(t, "ended at last", d, uint64(plainCost(8300)), text)
	}
	// No room for what is missing.
	text, _ = someText(t, 8213)
	parts = plainParts(text)
	filler := plainBatch([]table.Change{gone("q")})
	recs := slices.Clone(parts)
	for range 239 - 80 - 79 {
		recs = append(recs, filler)
	}
	d := logWith(t, 241, append(recs, parts[0])...)
	x, e := table.Open(d, 0, 241)
	if x != nil || e != api.ErrFull {
		t.Errorf("P6.2: no room for the checkpoint's end: %v, %d", x, e)
	}
	// No room for a checkpoint: the table opens, and falls with its first batch.
	d = logWith(t, 241, append(recs, plainBatch(slices.Repeat([]table.Change{gone("q")}, 80)))...)
	x = open(t, d)
	for x.Unflushed() < 200 && x.Commit(gone("q")) == api.OK {
	}
	is(t, "P6.3: the log's error", x.Commit(gone("q")), api.ErrFull)
	is(t, "P6.4: fallen with it", x.Flush(), api.ErrFull)
}
