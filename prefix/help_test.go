package prefix_test

import (
	"math"
	"math/rand"
	"slices"
	"strings"
	"testing"

	"patchbay/api"
	"patchbay/prefix"
)

// four answers an address of IPv4.
func four(a, b, c, d byte) api.Addr { return api.Addr{B: [16]byte{a, b, c, d}} }

// six answers the address of IPv6 that begins with these numbers; all behind them are 0.
func six(list ...uint16) api.Addr {
	a := api.Addr{V6: true}
	for i, v := range list {
		a.B[2*i], a.B[2*i+1] = byte(v>>8), byte(v)
	}
	return a
}

// of answers the prefix of these numbers, as they are.
func of(a api.Addr, bits int) api.Prefix { return api.Prefix{Addr: a, Bits: bits} }

// wide answers how many bits an address has.
func wide(a api.Addr) int {
	if a.V6 {
		return 128
	}
	return 32
}

// flip answers the address with another bit at the place.
func flip(a api.Addr, place int) api.Addr {
	a.B[place/8] ^= 1 << (7 - place%8)
	return a
}

// row answers the address's bits as a text of 0 and 1.
func row(a api.Addr) string {
	var s strings.Builder
	for i := range wide(a) {
		s.WriteByte('0' + a.B[i/8]>>(7-i%8)&1)
	}
	return s.String()
}

// fromRow answers the prefix whose bits are these.
func fromRow(v6 bool, s string) api.Prefix {
	a := api.Addr{V6: v6}
	for i, x := range s {
		if x == '1' {
			a = flip(a, i)
		}
	}
	return of(a, len(s))
}

// head answers the bits of a prefix that may be.
func head(p api.Prefix) string { return row(p.Addr)[:p.Bits] }

// hasSays and coversSays answer Has and Covers of what may be, as the chapter says it.
func hasSays(p api.Prefix, a api.Addr) bool {
	return p.Addr.V6 == a.V6 && strings.HasPrefix(row(a), head(p))
}

func coversSays(p, q api.Prefix) bool {
	return p.Bits <= q.Bits && hasSays(p, q.Addr)
}

// sign answers how a number stands to 0.
func sign(n int) int {
	switch {
	case n < 0:
		return -1
	case n > 0:
		return 1
	}
	return 0
}

// compareSays answers Compare of any two, as the chapter says it.
func compareSays(p, q api.Prefix) int {
	if p.Addr.V6 != q.Addr.V6 {
		return sign(wide(p.Addr) - wide(q.Addr))
	}
	for i, x := range p.Addr.B {
		if x != q.Addr.B[i] {
			return sign(int(x) - int(q.Addr.B[i]))
		}
	}
	switch {
	case p.Bits < q.Bits:
		return -1
	case p.Bits > q.Bits:
		return 1
	}
	return 0
}

// addrs are the least and the greatest addresses of both kinds, and some between.
func addrs() []api.Addr {
	return []api.Addr{
		four(0, 0, 0, 0), four(255, 255, 255, 255), four(10, 1, 2, 3), four(128, 0, 0, 1), four(0, 0, 0, 1), four(170, 85, 170, 85),
		six(), six(0xffff, 0xffff, 0xffff, 0xffff, 0xffff, 0xffff, 0xffff, 0xffff), six(0x2001, 0xdb8), six(0, 0, 0, 0, 0, 0, 0, 1),
		six(0x0a01, 0x0203), six(0, 0, 0, 0, 0, 0xffff, 0x0a01, 0x0203), six(0x8000, 1, 0, 2, 0, 0, 0, 0x8001), six(0xaaaa, 0x5555, 0xaaaa, 0x5555, 0xaaaa, 0x5555, 0xaaaa, 0x5555),
	}
}

// notAddrs are addresses of IPv4 with more than four bytes.
func notAddrs() []api.Addr {
	var list []api.Addr
	for i := 4; i < 16; i++ {
		for _, x := range []byte{1, 128, 255} {
			a := four(10, 0, 0, 0)
			a.B[i] = x
			list = append(list, a)
		}
	}
	return list
}

// notBits are numbers of bits that are none, of an address with so many.
func notBits(width int) []int {
	return []int{math.MinInt, math.MinInt + width, -129, -33, -width, -8, -1, width + 1, width + 8, 129, 256 + 8, 1<<32 + 8, math.MaxInt - 8, math.MaxInt}
}

// prefixes are all that have the first bits of one of addrs.
func prefixes() []api.Prefix {
	var list []api.Prefix
	for _, a := range addrs() {
		r := row(a)
		for bits := range len(r) + 1 {
			list = append(list, fromRow(a.V6, r[:bits]))
		}
	}
	return list
}

// some are fewer of them: with few bits, with many, about where a byte ends.
func some() []api.Prefix {
	return slices.DeleteFunc(prefixes(), func(p api.Prefix) bool {
		return p.Bits > 2 && p.Bits%8 > 1 && p.Bits%8 < 7 && p.Bits < wide(p.Addr)-1
	})
}

// notPrefixes are wrong in each way: too few bits and too many, a bit too far behind, an address that is none.
func notPrefixes() []api.Prefix {
	var list []api.Prefix
	for _, a := range []api.Addr{four(0, 0, 0, 0), six()} {
		for _, bits := range notBits(wide(a)) {
			list = append(list, of(a, bits))
		}
		for _, bits := range []int{0, 1, 7, 8, 9, wide(a) - 1} {
			list = append(list, of(flip(a, bits), bits), of(flip(a, wide(a)-1), bits))
		}
	}
	for _, a := range notAddrs() {
		list = append(list, of(a, 8), of(a, 32), of(a, 0), of(a, 128))
	}
	return list
}

// drawn answers a prefix whose address has many noughts.
func drawn(r *rand.Rand) api.Prefix {
	a := api.Addr{V6: r.Intn(2) == 0}
	for i := range wide(a) / 8 {
		if r.Intn(3) == 0 {
			a.B[i] = byte(r.Intn(256)) & byte(r.Intn(256))
		}
	}
	bits := r.Intn(wide(a) + 1)
	return fromRow(a.V6, row(a)[:bits])
}

// mustRead answers the prefixes of the texts, one behind the other with a space between.
func mustRead(t *testing.T, texts string) []api.Prefix {
	t.Helper()
	var list []api.Prefix
	for _, s := range strings.Fields(texts) {
		p, e := prefix.Read(s)
		if e != api.OK {
			t.Fatalf("Read(%q): %v", s, e)
		}
		list = append(list, p)
	}
	return list
}
