// Package octets is layer 1: numbers as bytes, sums and hashes; see shared/doc/01-octets.md.
package octets

import (
	"math/bits"

	"patchbay/api"
)

const (
	maxSum  = 65535
	maxBits = 64

	hashStart = 14695981039346656037
	hashPrime = 1099511628211
)

// Number is a number that has bytes.
type Number interface {
	~uint8 | ~uint16 | ~uint32 | ~uint64
}

// Put answers b, and behind it v's bytes, the highest first.
func Put[T Number](b []byte, v T) []byte {
	out := make([]byte, len(b)+size[T]())
	copy(out, b)
	// As 64 bits, since a T of 8 bits can't be shifted by 8.
	rest := uint64(v)
	for i := len(out) - 1; i >= len(b); i-- {
		out[i] = byte(rest)
		rest >>= 8
	}
	return out
}

// Take answers the number whose bytes stand in b from the place at on.
func Take[T Number](b []byte, at int) (T, api.Errno) {
	n := size[T]()
	// Not at+n > len(b): a huge place would wrap round.
	if at < 0 || at > len(b)-n {
		return 0, api.ErrRange
	}
	var v uint64
	for _, x := range b[at : at+n] {
		v <<= 8
		v |= uint64(x)
	}
	return T(v), api.OK
}

// size is how many bytes a T has.
func size[T Number]() int {
	return bits.Len64(uint64(^T(0))) / 8
}

// Sum answers the internet checksum of all the parts, one behind the other.
func Sum(parts ...[]byte) uint16 {
	var total uint64
	// Kept from part to part: a part may end in the middle of a number.
	shift := 8
	for _, part := range parts {
		for _, x := range part {
			total += uint64(x) << shift
			shift ^= 8
		}
	}
	return maxSum - fold(total)
}

// Update answers the sum of what there is when the number old becomes new.
func Update(sum, old, new uint16) uint16 {
	total := uint64(maxSum - sum)
	total += uint64(maxSum - old)
	total += uint64(new)
	return maxSum - fold(total)
}

// fold adds what is above 16 bits to the lowest 16, as long as there is something.
func fold(total uint64) uint16 {
	for total > maxSum {
		above := total >> 16
		total &= maxSum
		total += above
	}
	return uint16(total)
}

// Hash answers the FNV-1a hash of all the parts, one behind the other.
func Hash(parts ...[]byte) uint64 {
	h := uint64(hashStart)
	for _, part := range parts {
		for _, x := range part {
			h ^= uint64(x)
			h *= hashPrime
		}
	}
	return h
}

// Bits answers n bits of b, from the bit from on, as a number.
func Bits(b []byte, from, n int) (uint64, api.Errno) {
	if n < 0 || n > maxBits {
		return 0, api.ErrArg
	}
	// Not from+n > len(b)*8: a huge place would wrap round.
	if from < 0 || from > len(b)*8-n {
		return 0, api.ErrRange
	}
	var v uint64
	for i := from; i < from+n; i++ {
		v <<= 1
		v |= uint64(b[i/8] >> (7 - i%8) & 1)
	}
	return v, api.OK
}

// Common answers how many of their first bits a and b have in common.
func Common(a, b []byte) int {
	n := min(len(a), len(b))
	for i := range n {
		if x := a[i] ^ b[i]; x != 0 {
			return i*8 + bits.LeadingZeros8(x)
		}
	}
	return n * 8
}
