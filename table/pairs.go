package table

import (
	"bytes"
	"slices"

	"halyard/octet"
)

// pairs: the values by their keys; the keys, sorted; and how many bytes all of them have. A value that stands there is replaced, never written to.
type pairs struct {
	values map[string][]byte
	keys   []string
	live   int
}

// pair: a key and its value.
type pair struct {
	key   string
	value []byte
}

func newPairs() pairs { return pairs{values: map[string][]byte{}} }

// pairBytes: of a key and its value.
func pairBytes(key string, value []byte) []byte {
	return octet.AppendBytes(octet.AppendBytes(nil, []byte(key)), value)
}

// pairSize: how many bytes a key and its value have.
func pairSize(key string, value []byte) int { return listSize(len(key)) + listSize(len(value)) }

// listSize: how many bytes a list of n bytes has.
func listSize(n int) int { return len(octet.AppendNumber(nil, uint64(n))) + n }

// size: how many bytes the pair of a key has; 0, if there is none.
func (p *pairs) size(key string) int {
	value, found := p.values[key]
	if !found {
		return 0
	}
	return pairSize(key, value)
}

// put: the key has this value from now on.
func (p *pairs) put(key string, value []byte) {
	p.live -= p.size(key)
	k, found := slices.BinarySearch(p.keys, key)
	if !found {
		p.keys = slices.Insert(p.keys, k, key)
	}
	p.values[key] = bytes.Clone(value)
	p.live += p.size(key)
}

// drop: the key is there no more.
func (p *pairs) drop(key string) {
	k, found := slices.BinarySearch(p.keys, key)
	if !found {
		return
	}
	p.live -= p.size(key)
	p.keys = slices.Delete(p.keys, k, k+1)
	delete(p.values, key)
}

// do: the changes, in their order.
func (p *pairs) do(batch []Change) {
	for _, c := range batch {
		if c.Gone {
			p.drop(string(c.Key))
		} else {
			p.put(string(c.Key), c.Value)
		}
	}
}

// liveBehind: what live would be behind a batch.
func (p *pairs) liveBehind(batch []Change) int {
	live := p.live
	sizes := map[string]int{} // of the pairs that the batch has come to
	for _, c := range batch {
		key := string(c.Key)
		was, come := sizes[key]
		if !come {
			was = p.size(key)
		}
		sizes[key] = 0
		if !c.Gone {
			sizes[key] = pairSize(key, c.Value)
		}
		live += sizes[key] - was
	}
	return live
}

// between: the pairs with keys from low on, below high, rising; high "" is no bound.
func (p *pairs) between(low, high string) []pair {
	from, _ := slices.BinarySearch(p.keys, low)
	below := len(p.keys)
	if high != "" {
		below, _ = slices.BinarySearch(p.keys, high)
	}
	var out []pair
	for i := from; i < below; i++ {
		out = append(out, pair{p.keys[i], p.values[p.keys[i]]})
	}
	return out
}

// text: the bytes of all pairs, by rising keys.
func (p *pairs) text() []byte {
	var b []byte
	for _, key := range p.keys {
		b = append(b, pairBytes(key, p.values[key])...)
	}
	return b
}
