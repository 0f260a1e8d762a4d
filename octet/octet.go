// Package octet: layer 1: numbers, lists of bytes and sealed texts as bytes, and a reader of them.
package octet

import (
	"bytes"
	"slices"

	"halyard/api"
)

const (
	base     = 128     // of a number's digits; added to each of its bytes but the last
	longest  = 10      // bytes of a number at most: 64 bits, seven to a byte
	sealSize = 4       // bytes of a seal
	halfBits = 4       // of half a byte
	full     = 1 << 57 // from here on a number has no room for one more digit in 64 bits
)

// sums: what each half byte, moved out of the CRC's low end, changes in the rest of it.
var sums = [16]uint32{
	0x00000000, 0x1db71064, 0x3b6e20c8, 0x26d930ac,
	0x76dc4190, 0x6b6b51f4, 0x4db26158, 0x5005713c,
	0xedb88320, 0xf00f9344, 0xd6d6a3e8, 0xcb61b38c,
	0x9b64c2b0, 0x86d3d2d4, 0xa00ae278, 0xbdbdf21c,
}

// AppendNumber: the bytes of b, then those of the number n.
func AppendNumber(b []byte, n uint64) []byte { return slices.Concat(b, digits(n)) }

// Number: the number at the front of b, and how many bytes it has.
func Number(b []byte) (uint64, int, api.Errno) {
	var n uint64
	size := numberSize(b)
	// An end that is not there yet comes first: what is wrong may only be told of a number that is whole.
	if size == 0 && len(b) < longest {
		return 0, 0, api.ErrShort
	}
	if size == 0 {
		goto wrong
	}
	if b[0] == base {
		goto wrong
	}
	for _, c := range b[:size] {
		if n >= full {
			goto wrong
		}
		n = n*base + uint64(c%base)
	}
	return n, size, api.OK
wrong:
	return 0, 0, api.ErrNumber
}

// AppendBytes: the bytes of b, then those of the list x.
func AppendBytes(b, x []byte) []byte { return slices.Concat(b, digits(uint64(len(x))), x) }

// CRC: the CRC-32 of IEEE 802.3 of the bytes.
func CRC(b []byte) uint32 {
	c := ^uint32(0)
	for _, x := range b {
		c ^= uint32(x)
		c = c>>halfBits ^ sums[c%16]
		c = c>>halfBits ^ sums[c%16]
	}
	return ^c
}

// Seal: the bytes of b, then its seal.
func Seal(b []byte) []byte { return slices.Concat(b, sealOf(b)) }

// Unseal: what was sealed.
func Unseal(b []byte) ([]byte, api.Errno) {
	n := len(b) - sealSize
	if n < 0 {
		return nil, api.ErrShort
	}
	if !bytes.Equal(b[n:], sealOf(b[:n])) {
		return nil, api.ErrSeal
	}
	return bytes.Clone(b[:n]), api.OK
}

// Burst: the bytes of b, with the bits from number at on turned where mask has ones, its lowest one first.
func Burst(b []byte, at int, mask uint32) []byte {
	out := bytes.Clone(b)
	for j := range 32 {
		k := at + j // beyond int's end it wraps round to below 0, and is no bit's there either
		if mask>>j%2 == 1 && k >= 0 && k/8 < len(out) {
			out[k/8] ^= 1 << (k % 8)
		}
	}
	return out
}

// digits: the bytes of a number.
func digits(n uint64) []byte {
	d := make([]byte, longest)
	i := longest - 1
	d[i] = byte(n % base)
	for n >= base {
		n /= base
		i--
		d[i] = byte(n%base) + base
	}
	return d[i:]
}

// numberSize: how many bytes the number at the front of b has; 0, if none of those that it may have is its last.
func numberSize(b []byte) int {
	for i, c := range b[:min(len(b), longest)] {
		if c < base {
			return i + 1
		}
	}
	return 0
}

// sealOf: the seal of b.
func sealOf(b []byte) []byte {
	c := CRC(b)
	return []byte{byte(c), byte(c >> 8), byte(c >> 16), byte(c >> 24)}
}
