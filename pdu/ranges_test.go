package pdu_test

import (
	"math"
	"math/rand"
	"slices"
	"testing"

	"halyard/api"
	"halyard/pdu"
)

func same(a, b []api.Range) bool { return slices.Equal(a, b) }

// isLeast: the chapter's sentence on a least form, for the form's own sake.
func isLeast(l []api.Range) bool {
	for i, x := range l {
		if x.From >= x.To || i > 0 && l[i-1].To >= x.From {
			return false
		}
	}
	return true
}

// someList: ranges of small numbers or of ints at the ends, in no order.
func someList(r *rand.Rand) []api.Range {
	ends := []int{math.MinInt, math.MinInt + 1, math.MinInt + 2, -2, -1, 0, 1, 2, 3, math.MaxInt - 2, math.MaxInt - 1, math.MaxInt}
	one := func() int {
		if r.Intn(4) == 0 {
			return ends[r.Intn(len(ends))]
		}
		return r.Intn(40) - 6
	}
	l := []api.Range{}
	for range r.Intn(9) {
		l = append(l, api.Range{From: one(), To: one()})
	}
	return l
}

// numbersOf: those from low to high that one of the ranges has.
func numbersOf(l []api.Range, low, high int) []int {
	var out []int
	for i := low; i <= high; i++ {
		if slices.ContainsFunc(l, func(x api.Range) bool { return i >= x.From && i <= x.To-1 && x.To > x.From }) {
			out = append(out, i)
		}
	}
	return out
}

// formOf: the least form of rising numbers.
func formOf(numbers []int) []api.Range {
	out := []api.Range{}
	for _, i := range numbers {
		if n := len(out); n > 0 && out[n-1].To == i {
			out[n-1].To++
		} else {
			out = append(out, api.Range{From: i, To: i + 1})
		}
	}
	return out
}

func TestExamplesOfRanges(t *testing.T) {
	const most = math.MaxInt
	for _, c := range []struct {
		what      string
		got, want []api.Range
	}{
		{"Least", pdu.Least(list(5, 7, 3, 3, 0, 2, 2, 4, 9, 1)), list(0, 4, 5, 7)},
		{"Least of nothing", pdu.Least(nil), nil},
		{"Least of all ints", pdu.Least(list(math.MinInt, most)), list(math.MinInt, most)},
		{"Least of two halves", pdu.Least(list(0, most, math.MinInt, 0)), list(math.MinInt, most)},
		{"Least, one in another", pdu.Least(list(0, 9, 2, 3)), list(0, 9)},
		{"Least, the shorter one ahead", pdu.Least(list(0, 3, 0, 9)), list(0, 9)},
		{"Least, an empty one within", pdu.Least(list(0, 2, 5, 5, 7, 8)), list(0, 2, 7, 8)},
		{"Least, the wrong way round", pdu.Least(list(most, math.MinInt)), nil},
		{"Least, at the greatest int", pdu.Least(list(most, most, most-1, most)), list(most-1, most)},
		{"Least, at the least int", pdu.Least(list(math.MinInt, math.MinInt, math.MinInt, math.MinInt+1)), list(math.MinInt, math.MinInt+1)},
		{"Add", pdu.Add(list(0, 2, 3, 4), 2), list(0, 4)},
		{"Add to nothing", pdu.Add(nil, 2), list(2, 3)},
		{"Add of what is there", pdu.Add(list(3, 4, 0, 2), 1), list(0, 2, 3, 4)},
		{"Add of one that touches nothing", pdu.Add(list(0, 2), 3), list(0, 2, 3, 4)},
		{"Add of the greatest int to nothing", pdu.Add(nil, most), nil},
		{"Add of the greatest int", pdu.Add(list(3, 4, 2, 3, 9, 1), most), list(2, 4)},
		{"Add of the one below the greatest int", pdu.Add(list(1, 2), most-1), list(1, 2, most-1, most)},
		{"Add of the least int", pdu.Add(list(1, 2), math.MinInt), list(math.MinInt, math.MinInt+1, 1, 2)},
		{"Union", pdu.Union(list(4, 6, 0, 1), list(1, 2, 5, 9)), list(0, 2, 4, 9)},
		{"Union with nothing", pdu.Union(list(4, 6, 0, 1), nil), list(0, 1, 4, 6)},
		{"Union of nothing", pdu.Union(nil, list(4, 6, 0, 1)), list(0, 1, 4, 6)},
		{"Union of nothing with nothing", pdu.Union(nil, nil), nil},
		{"Missing", pdu.Missing(list(2, 4), 6), list(0, 2, 4, 6)},
		{"Missing in 0", pdu.Missing(nil, 0), nil},
		{"Missing in -3", pdu.Missing(nil, -3), nil},
		{"Missing in -3, with numbers below 0", pdu.Missing(list(-9, -5), -3), nil},
		{"Missing in the least int", pdu.Missing(list(-9, -5), math.MinInt), nil},
		{"Missing in 1", pdu.Missing(nil, 1), list(0, 1)},
		{"Missing of all", pdu.Missing(list(0, 6), 6), nil},
		{"Missing of more than all", pdu.Missing(list(-3, 9), 6), nil},
		{"Missing, below 0 and up to 2", pdu.Missing(list(-3, 2), 6), list(2, 6)},
		{"Missing, all below 0", pdu.Missing(list(-3, -1), 6), list(0, 6)},
		{"Missing, all above", pdu.Missing(list(7, 9, 6, 7), 6), list(0, 6)},
		{"Missing, two above", pdu.Missing(list(7, 9, 11, 12), 6), list(0, 6)},
		{"Missing, over the end", pdu.Missing(list(5, 9, 11, 12), 6), list(0, 5)},
		{"Missing, one at the end", pdu.Missing(list(0, 5), 6), list(5, 6)},
		{"Missing of nothing in the greatest int", pdu.Missing(nil, most), list(0, most)},
		{"Missing in the greatest int", pdu.Missing(list(most-1, most, 1, 2, math.MinInt, -5), most), list(0, 1, 2, most-1)},
		{"Missing of all ints", pdu.Missing(list(math.MinInt, most), most), nil},
	} {
		if !same(c.got, c.want) {
			t.Errorf("P306: %s = %v, want %v", c.what, c.got, c.want)
		}
	}
}

func TestTotal(t *testing.T) {
	const most = math.MaxInt
	for _, c := range []struct {
		l    []api.Range
		want int
	}{
		{nil, 0}, {list(0, 4, 2, 6), 6}, {list(3, 3), 0}, {list(9, 1), 0}, {list(most, math.MinInt), 0}, {list(-3, 3), 6}, {list(0, 1, 0, 1, 0, 1), 1},
		{list(math.MinInt, most), most}, {list(0, most), most}, {list(-1, most), most}, {list(1, most), most - 1}, {list(1, most, -4, -3), most}, {list(1, most, -4, -2), most}, {list(1, most, math.MinInt, 0), most},
		{list(math.MinInt, -1), most}, {list(math.MinInt, 0), most}, {list(math.MinInt, -2), most - 1}, {list(math.MinInt, -2, 5, 6), most}, {list(math.MinInt, -2, 5, 7), most},
	} {
		if n := pdu.Total(c.l); n != c.want || n != wordsOfTotal(c.l) {
			t.Errorf("P306: Total(%v) = %d, want %d", c.l, n, c.want)
		}
	}
}

func TestHas(t *testing.T) {
	const most = math.MaxInt
	l := list(9, 1, 0, 4, 7, 7, 2, 6, most-1, most, math.MinInt, math.MinInt+1)
	for i, want := range map[int]bool{-1: false, 0: true, 3: true, 4: true, 5: true, 6: false, 7: false, 8: false, 9: false, 1: true, most: false, most - 1: true, most - 2: false, math.MinInt: true, math.MinInt + 1: false} {
		if pdu.Has(l, i) != want {
			t.Errorf("P306: Has %d: want %v", i, want)
		}
	}
	if pdu.Has(list(0, 4), 4) || pdu.Has(nil, 0) || pdu.Has(list(0, 0), 0) || pdu.Has(list(math.MinInt, most), most) || pdu.Has(list(most, most), most) {
		t.Error("P306: Has of what is not there")
	}
}

// All lists of up to three ranges of a few numbers, against the numbers themselves.
func TestAllSmallLists(t *testing.T) {
	var ranges []api.Range
	for from := -1; from <= 4; from++ {
		for to := -1; to <= 4; to++ {
			ranges = append(ranges, api.Range{From: from, To: to})
		}
	}
	lists := [][]api.Range{{}}
	for _, a := range ranges {
		lists = append(lists, []api.Range{a})
		for _, b := range ranges {
			lists = append(lists, []api.Range{a, b})
			for _, c := range ranges {
				lists = append(lists, []api.Range{a, b, c})
			}
		}
	}
	for _, l := range lists {
		numbers := numbersOf(l, -1, 4)
		if x := pdu.Least(l); !same(x, formOf(numbers)) {
			t.Fatalf("P306: Least(%v) = %v", l, x)
		}
		if n := pdu.Total(l); n != len(numbers) {
			t.Fatalf("P306: Total(%v) = %d", l, n)
		}
		for i := -2; i <= 5; i++ {
			if pdu.Has(l, i) != slices.Contains(numbers, i) {
				t.Fatalf("P306: Has(%v, %d) = %v", l, i, pdu.Has(l, i))
			}
			var missing, with []int
			for j := -3; j <= 6; j++ {
				has := slices.Contains(numbers, j)
				if j >= 0 && j < i && !has {
					missing = append(missing, j)
				}
				if has || j == i {
					with = append(with, j)
				}
			}
			if x := pdu.Missing(l, i); !same(x, formOf(missing)) {
				t.Fatalf("P306: Missing(%v, %d) = %v", l, i, x)
			}
			if x := pdu.Add(l, i); !same(x, formOf(with)) {
				t.Fatalf("P306: Add(%v, %d) = %v", l, i, x)
			}
		}
	}
}

func TestRangesAsTheWordsSay(t *testing.T) {
	r := chance()
	for range 20000 {
		l, m := someList(r), someList(r)
		if x := pdu.Least(l); !same(x, wordsOfLeast(l)) || !isLeast(x) {
			t.Fatalf("P306: Least(%v) = %v, want %v", l, x, wordsOfLeast(l))
		}
		if x, want := pdu.Union(l, m), wordsOfLeast(slices.Concat(l, m)); !same(x, want) {
			t.Fatalf("P306: Union(%v, %v) = %v, want %v", l, m, x, want)
		}
		if n := pdu.Total(l); n != wordsOfTotal(l) {
			t.Fatalf("P306: Total(%v) = %d, want %d", l, n, wordsOfTotal(l))
		}
		for _, i := range []int{r.Intn(40) - 6, math.MaxInt, math.MaxInt - 1, math.MinInt} {
			if x := pdu.Missing(l, i); !same(x, wordsOfMissing(l, i)) || !isLeast(x) {
				t.Fatalf("P306: Missing(%v, %d) = %v, want %v", l, i, x, wordsOfMissing(l, i))
			}
			with := slices.Clone(l)
			if i < math.MaxInt {
				with = append(with, api.Range{From: i, To: i + 1})
			}
			if x := pdu.Add(l, i); !same(x, wordsOfLeast(with)) {
				t.Fatalf("P306: Add(%v, %d) = %v, want %v", l, i, x, wordsOfLeast(with))
			}
			if pdu.Has(l, i) != (i < math.MaxInt && same(wordsOfLeast(l), wordsOfLeast(with))) {
				t.Fatalf("P306: Has(%v, %d) = %v", l, i, pdu.Has(l, i))
			}
		}
	}
}

// within: the numbers of l from 0 to n - 1, written as they come.
func within(l []api.Range, n int) []api.Range {
	out := []api.Range{}
	for _, x := range l {
		out = append(out, api.Range{From: max(x.From, 0), To: min(x.To, n)})
	}
	return out
}

func TestSets(t *testing.T) {
	r := chance()
	for range 10000 {
		l, m := someList(r), someList(r)
		u := pdu.Union(l, m)
		mixed := slices.Concat(m, l, l, m)
		r.Shuffle(len(mixed), func(i, j int) { mixed[i], mixed[j] = mixed[j], mixed[i] })
		if !same(u, pdu.Union(m, l)) || !same(u, pdu.Union(mixed, nil)) || !same(u, pdu.Union(pdu.Least(l), pdu.Least(m))) || !same(u, pdu.Least(mixed)) {
			t.Fatalf("P307: Union of %v and %v hangs on more than the numbers", l, m)
		}
		if !same(pdu.Union(l, l), pdu.Least(l)) || !same(pdu.Least(pdu.Least(l)), pdu.Least(l)) {
			t.Fatalf("P307: Union of %v with itself", l)
		}
		n := []int{0, 1, 2, r.Intn(40), math.MaxInt}[r.Intn(5)]
		all := list(0, n)
		if n == 0 {
			all = nil
		}
		if x := pdu.Union(pdu.Missing(l, n), within(l, n)); !same(x, all) {
			t.Fatalf("P307: Missing(%v, %d) and what is there: %v", l, n, x)
		}
		if x := pdu.Missing(pdu.Missing(l, n), n); !same(x, pdu.Least(within(l, n))) {
			t.Fatalf("P307: Missing of Missing(%v, %d): %v", l, n, x)
		}
		for _, x := range within(l, n) {
			for _, y := range pdu.Missing(l, n) {
				if max(x.From, y.From) < min(x.To, y.To) {
					t.Fatalf("P307: Missing(%v, %d) has what is there: %v", l, n, y)
				}
			}
		}
	}
}

// Two lists with the same numbers: one range a number, and ranges that overlap.
func TestSameNumbersSameLeast(t *testing.T) {
	r := chance()
	for range 2000 {
		l := []api.Range{}
		for range r.Intn(6) {
			from := r.Intn(30)
			l = append(l, api.Range{From: from, To: from + r.Intn(9)})
		}
		one := []api.Range{}
		for _, i := range numbersOf(l, 0, 60) {
			one = pdu.Add(one, i)
		}
		if !same(one, pdu.Least(l)) {
			t.Fatalf("P307: Least(%v) = %v; of its numbers one by one: %v", l, pdu.Least(l), one)
		}
	}
}

func TestFew(t *testing.T) {
	for n := range 13 {
		most := 0
		for set := range 1 << n {
			var l []api.Range
			for i := range n {
				if set>>i%2 == 1 {
					l = append(l, api.Range{From: i, To: i + 1})
				}
			}
			slices.Reverse(l)
			most = max(most, len(pdu.Least(l)))
		}
		if most != (n+1)/2 {
			t.Errorf("P308: of numbers below %d a least form has %d ranges", n, most)
		}
	}
	r := chance()
	for range 3000 {
		l := someList(r)
		if n := len(pdu.Missing(l, 40)); n > 20 {
			t.Errorf("P308: %d ranges of numbers below 40", n)
		}
	}
}
