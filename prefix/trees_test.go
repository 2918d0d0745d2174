package prefix_test

import (
	"math/rand"
	"testing"

	"patchbay/api"
	"patchbay/prefix"
)

// shares tells whether two prefixes that may be share an address. The one with more bits has its own first address; it would be the other's, too.
func shares(p, q api.Prefix) bool {
	return prefix.Has(p, q.Addr) || prefix.Has(q, p.Addr)
}

func TestP157EitherApartOrOneCovers(t *testing.T) {
	list := some()
	r := rand.New(rand.NewSource(157))
	for range 200 {
		list = append(list, drawn(r))
	}
	for _, p := range list {
		for _, q := range list {
			one, other := prefix.Covers(p, q), prefix.Covers(q, p)
			if (one || other) != shares(p, q) {
				t.Fatalf("%v and %v: they cover %v, %v, and share %v", p, q, one, other, shares(p, q))
			}
			if (one && other) != (p == q) {
				t.Fatalf("%v and %v cover one another: %v, %v", p, q, one, other)
			}
		}
	}
}

// inside answers addresses that the prefix has: the first one, the last one, some between.
func inside(r *rand.Rand, p api.Prefix) []api.Addr {
	last := p.Addr
	list := []api.Addr{p.Addr}
	for place := p.Bits; place < wide(p.Addr); place++ {
		last = flip(last, place)
		list = append(list, flip(p.Addr, place))
	}
	list = append(list, last)
	for range 8 {
		a := p.Addr
		for place := p.Bits; place < wide(a); place++ {
			if r.Intn(2) == 0 {
				a = flip(a, place)
			}
		}
		list = append(list, a)
	}
	return list
}

func TestP157HalvesHaveJustItsAddresses(t *testing.T) {
	r := rand.New(rand.NewSource(1572))
	list := some()
	for range 200 {
		list = append(list, drawn(r))
	}
	for _, p := range list {
		low, high, e := prefix.Halves(p)
		if e != api.OK {
			continue
		}
		among := append(inside(r, p), addrs()...)
		for place := range p.Bits {
			among = append(among, flip(p.Addr, place))
		}
		for _, a := range among {
			one, other := prefix.Has(low, a), prefix.Has(high, a)
			if one && other || (one || other) != prefix.Has(p, a) {
				t.Fatalf("%v has %v: %v, its halves: %v, %v", p, a, prefix.Has(p, a), one, other)
			}
		}
	}
}

func TestP157OfHasItsAddress(t *testing.T) {
	for _, a := range addrs() {
		var fewer []api.Prefix
		for bits := range wide(a) + 1 {
			p, e := prefix.Of(a, bits)
			if e != api.OK || !prefix.Has(p, a) {
				t.Fatalf("Of(%v, %d): %v, %v", a, bits, p, e)
			}
			for _, q := range fewer {
				if !prefix.Covers(q, p) || prefix.Covers(p, q) {
					t.Fatalf("%v and %v", q, p)
				}
			}
			fewer = append(fewer, p)
		}
	}
}
