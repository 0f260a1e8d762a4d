package pdu

import (
	"cmp"
	"math"
	"slices"

	"halyard/api"
)

// Add: the ranges with the number i.
func Add(l []api.Range, i int) []api.Range {
	if i == math.MaxInt { // no range has it: there is no int above it to end at
		return Least(l)
	}
	return Union(l, []api.Range{{From: i, To: i + 1}})
}

// Has: does one of the ranges have the number i?
func Has(l []api.Range, i int) bool {
	for _, x := range l {
		if x.From <= i && i < x.To {
			return true
		}
	}
	return false
}

// Union: the numbers that l or m has.
func Union(l, m []api.Range) []api.Range { return Least(slices.Concat(l, m)) }

// Missing: the numbers from 0 to n - 1 that l does not have.
func Missing(l []api.Range, n int) []api.Range {
	var out []api.Range
	at := 0 // all below it are looked at
	for _, x := range append(Least(l), api.Range{From: n, To: n}) {
		if gap := (api.Range{From: at, To: min(x.From, n)}); !empty(gap) {
			out = append(out, gap)
		}
		at = max(at, x.To)
	}
	return out
}

// Total: how many numbers the ranges have.
func Total(l []api.Range) int {
	var sum uint64 // ranges that do not overlap have fewer than 2^64 numbers in all
	for _, x := range Least(l) {
		sum += uint64(x.To) - uint64(x.From)
	}
	return int(min(sum, math.MaxInt))
}

// Least: the same numbers as ranges in order, none empty, none touching another.
func Least(l []api.Range) []api.Range {
	sorted := slices.Clone(l)
	slices.SortFunc(sorted, func(a, b api.Range) int { return cmp.Compare(a.From, b.From) })
	var out []api.Range
	for _, x := range sorted {
		last := len(out) - 1
		switch {
		case empty(x):
		case last >= 0 && x.From <= out[last].To:
			out[last].To = max(out[last].To, x.To)
		default:
			out = append(out, x)
		}
	}
	return out
}

// empty: has the range no number?
func empty(x api.Range) bool { return x.To <= x.From }
