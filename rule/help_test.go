package rule_test

import (
	"bytes"
	"math"
	"math/rand"
	"slices"
	"sync"
	"testing"

	"patchbay/api"
	"patchbay/plays"
	"patchbay/prefix"
	"patchbay/rule"
)

// pack is a packet: the port at which it comes in, and its header.
type pack struct {
	in int
	h  api.Header
}

// four answers an address of IPv4.
func four(a, b, c, d byte) api.Addr { return api.Addr{B: [16]byte{a, b, c, d}} }

// six answers an address of IPv6 that begins and ends so; all between is 0.
func six(first, last uint16) api.Addr {
	return api.Addr{V6: true, B: [16]byte{byte(first >> 8), byte(first), 14: byte(last >> 8), byte(last)}}
}

// zero answers a kind's address whose bits are all 0.
func zero(v6 bool) api.Addr { return api.Addr{V6: v6} }

// wide answers how many bits an address has.
func wide(a api.Addr) int {
	if a.V6 {
		return 128
	}
	return 32
}

// bit answers an address's bit at the place.
func bit(a api.Addr, place int) byte { return a.B[place/8] >> (7 - place%8) & 1 }

// flip answers the address with another bit at the place.
func flip(a api.Addr, place int) api.Addr {
	a.B[place/8] ^= 1 << (7 - place%8)
	return a
}

// first answers the prefix of an address's first bits.
func first(a api.Addr, bits int) api.Prefix {
	for place := bits; place < wide(a); place++ {
		if bit(a, place) == 1 {
			a = flip(a, place)
		}
	}
	return api.Prefix{Addr: a, Bits: bits}
}

// last answers the last address that a prefix has.
func last(p api.Prefix) api.Addr {
	a := p.Addr
	for place := p.Bits; place < wide(a); place++ {
		a = flip(a, place)
	}
	return a
}

// read answers the prefix of the text.
func read(s string) api.Prefix {
	p, e := prefix.Read(s)
	if e != api.OK {
		panic(s)
	}
	return p
}

// span answers the numbers from one to another one.
func span(from, to int) api.Span { return api.Span{From: uint16(from), To: uint16(to)} }

// in, src, dst and proto answer matches that ask that alone.
func in(from, to int) api.Match { return api.Match{Asks: 1, In: span(from, to)} }

func src(p api.Prefix) api.Match { return api.Match{Asks: 2, Src: p} }

func dst(p api.Prefix) api.Match { return api.Match{Asks: 4, Dst: p} }

func proto(x uint8) api.Match { return api.Match{Asks: 8, Proto: x} }

// srcPort and dstPort answer matches that ask a protocol, and such a port of it.
func srcPort(x uint8, from, to int) api.Match {
	return api.Match{Asks: 8 | 16, Proto: x, SrcPort: span(from, to)}
}

func dstPort(x uint8, from, to int) api.Match {
	return api.Match{Asks: 8 | 32, Proto: x, DstPort: span(from, to)}
}

// both answers the match that asks what these ask; of what both ask what the second one does.
func both(m, n api.Match) api.Match {
	m.Asks |= n.Asks
	for field := range 6 {
		if n.Asks>>field&1 == 1 {
			m = copied(m, n, field)
		}
	}
	return m
}

// copied answers m with the field of n: fields are numbered from 0 on, as the bits of Asks.
func copied(m, n api.Match, field int) api.Match {
	switch field {
	case 0:
		m.In = n.In
	case 1:
		m.Src = n.Src
	case 2:
		m.Dst = n.Dst
	case 3:
		m.Proto = n.Proto
	case 4:
		m.SrcPort = n.SrcPort
	case 5:
		m.DstPort = n.DstPort
	}
	return m
}

// without answers m without those fields.
func without(m api.Match, bits uint8) api.Match {
	m.Asks &^= bits
	for field := range 6 {
		if bits>>field&1 == 1 {
			m = copied(m, api.Match{}, field)
		}
	}
	return m
}

// addrMayBe and prefixMayBe are what the chapter of prefixes says of them.
func addrMayBe(a api.Addr) bool { return a.V6 || [12]byte(a.B[4:]) == [12]byte{} }

func prefixMayBe(p api.Prefix) bool {
	return addrMayBe(p.Addr) && p.Bits >= 0 && p.Bits <= wide(p.Addr) && first(p.Addr, p.Bits) == p
}

// has is, of a prefix that may be, what that chapter says of an address.
func has(p api.Prefix, a api.Addr) bool {
	if !addrMayBe(a) || a.V6 != p.Addr.V6 {
		return false
	}
	for place := range p.Bits {
		if bit(a, place) != bit(p.Addr, place) {
			return false
		}
	}
	return true
}

// mayBe tells whether a match may be, as the chapter says it.
func mayBe(m api.Match) bool {
	asks := func(bit uint8) bool { return m.Asks&bit != 0 }
	switch {
	case m.Asks >= 64:
		return false
	case !asks(1) && m.In != api.Span{}, !asks(2) && m.Src != api.Prefix{}, !asks(4) && m.Dst != api.Prefix{}:
		return false
	case !asks(8) && m.Proto != 0, !asks(16) && m.SrcPort != api.Span{}, !asks(32) && m.DstPort != api.Span{}:
		return false
	case asks(1) && (m.In.From > m.In.To || m.In.To > 255):
		return false
	case asks(16) && m.SrcPort.From > m.SrcPort.To, asks(32) && m.DstPort.From > m.DstPort.To:
		return false
	case asks(2) && !prefixMayBe(m.Src), asks(4) && !prefixMayBe(m.Dst):
		return false
	case asks(2) && asks(4) && m.Src.Addr.V6 != m.Dst.Addr.V6:
		return false
	}
	return !asks(16) && !asks(32) || asks(8) && (m.Proto == 6 || m.Proto == 17)
}

// holds tells whether a field of a match holds of a packet, if it is asked.
func holds(m api.Match, field int, x pack) bool {
	if m.Asks>>field&1 == 0 {
		return true
	}
	within := func(s api.Span, v int) bool { return int(s.From) <= v && v <= int(s.To) }
	switch field {
	case 0:
		return within(m.In, x.in)
	case 1:
		return has(m.Src, x.h.Src)
	case 2:
		return has(m.Dst, x.h.Dst)
	case 3:
		return m.Proto == x.h.Proto
	case 4:
		return within(m.SrcPort, int(x.h.SrcPort))
	}
	return within(m.DstPort, int(x.h.DstPort))
}

// meets tells whether a packet meets a match that may be, as the chapter says it.
func meets(m api.Match, x pack) bool {
	for field := range 6 {
		if !holds(m, field, x) {
			return false
		}
	}
	return true
}

// firstOf answers the number of the first one that the packet meets, as the chapter says it.
func firstOf(l []api.Match, x pack) int {
	return slices.IndexFunc(l, func(m api.Match) bool { return meets(m, x) })
}

// compiled is Compile of what may be.
func compiled(t *testing.T, l ...api.Match) *rule.Rules {
	t.Helper()
	r, e := rule.Compile(l...)
	if r == nil || e != api.OK {
		t.Fatalf("Compile of %d matches: %v, %v", len(l), r, e)
	}
	return r
}

// nones are rules that are none: nil, ones that no call made, copies.
func nones(t *testing.T) []*rule.Rules {
	r := compiled(t, proto(17), api.Match{}, proto(6))
	return []*rule.Rules{nil, {}, plays.Copied(r), plays.Copied(compiled(t)), plays.Copied(&rule.Rules{})}
}

// usualPorts and anyPorts are numbers at which a packet may come in, and others.
func usualPorts() []int {
	return []int{0, 1, 2, 3, 4, 5, 8, 9, 10, 11, 127, 128, 253, 254, 255}
}

func anyPorts() []int {
	return append(usualPorts(), -1, -3, -5, -251, -256, -65531, -65536, 256, 257, 259, 261, 512, 65535, 65536, 65536+5, 1<<32+5, -1<<32+5, 1<<62, math.MaxInt, math.MaxInt-250, math.MinInt, math.MinInt+5)
}

// notAddrs are addresses of IPv4 with more than four bytes.
func notAddrs() []api.Addr {
	var list []api.Addr
	for i := 4; i < 16; i++ {
		for _, x := range []byte{1, 128, 255} {
			a := four(10, 0, 0, 0)
			a.B[i] = x
			list = append(list, a)
		}
	}
	return list
}

// notPrefixes are wrong in each way: too few bits and too many, a bit too far behind, an address that is none.
func notPrefixes() []api.Prefix {
	list := []api.Prefix{{Addr: four(10, 0, 0, 1), Bits: 8}}
	for _, a := range []api.Addr{zero(false), four(10, 0, 0, 0), zero(true), six(0x2001, 0)} {
		for _, bits := range []int{math.MinInt, -129, -33, -8, -1, wide(a) + 1, wide(a) + 8, 129, 256 + 8, 1<<32 + 8, math.MaxInt} {
			list = append(list, api.Prefix{Addr: a, Bits: bits})
		}
		for _, bits := range []int{0, 1, 7, 8, 9, wide(a) - 1} {
			p := first(a, bits)
			list = append(list, api.Prefix{Addr: flip(p.Addr, bits), Bits: bits}, api.Prefix{Addr: flip(p.Addr, wide(a)-1), Bits: bits})
		}
	}
	for _, a := range notAddrs() {
		list = append(list, api.Prefix{Addr: a, Bits: 8}, api.Prefix{Addr: a, Bits: 32}, api.Prefix{Addr: a})
	}
	return list
}

// notMatches are wrong in each way that the chapter names, of all else as few as can be.
func notMatches() []api.Match {
	list := []api.Match{
		{Asks: 64}, {Asks: 128}, {Asks: 255}, {Asks: 99}, {Asks: 64 | 8, Proto: 6},
		{In: span(0, 1)}, {In: span(1, 0)}, {In: span(255, 255)}, {Src: read("10.0.0.0/8")}, {Src: read("::/0")}, {Dst: read("10.0.0.0/8")}, {Dst: read("::/0")},
		{Proto: 6}, {Proto: 255}, {Asks: 8, Proto: 6, SrcPort: span(0, 1)}, {Asks: 8, Proto: 17, DstPort: span(1, 1)}, {SrcPort: span(0, 80)}, {DstPort: span(80, 80)},
		in(0, 256), in(256, 256), in(255, 256), in(0, 65535), in(1, 0), in(255, 254), in(9, 3), in(65535, 0),
		srcPort(6, 1, 0), srcPort(6, 65535, 65534), srcPort(17, 80, 79), dstPort(6, 1, 0), dstPort(17, 65535, 0), dstPort(17, 80, 79),
		srcPort(1, 0, 9), dstPort(1, 0, 9), srcPort(0, 0, 0), dstPort(0, 0, 0), srcPort(58, 0, 65535), both(srcPort(5, 0, 0), dstPort(5, 0, 0)),
		{Asks: 16}, {Asks: 32}, {Asks: 48}, {Asks: 32, DstPort: span(80, 80)}, {Asks: 16, Proto: 6}, {Asks: 32, Proto: 17},
		both(src(read("10.0.0.0/8")), dst(read("::/0"))), both(src(read("::/0")), dst(read("0.0.0.0/0"))), both(src(read("2001::/16")), dst(read("10.1.2.3/32"))),
	}
	for _, p := range notPrefixes() {
		list = append(list, src(p), dst(p), both(src(p), dst(p)), both(src(p), dst(first(zero(p.Addr.V6), 0))), both(dst(p), src(first(zero(p.Addr.V6), 0))))
	}
	return list
}

// full answers a match that asks all fields, and a packet that meets it.
func full() (api.Match, pack) {
	m := both(both(in(3, 9), src(read("10.0.0.0/8"))), dst(read("10.1.0.0/16")))
	m = both(both(m, srcPort(6, 1024, 65535)), dstPort(6, 80, 80))
	return m, pack{5, api.Header{Src: four(10, 9, 8, 7), Dst: four(10, 1, 2, 3), Proto: 6, SrcPort: 2000, DstPort: 80}}
}

// drawnSpan answers numbers from one to another one, of which the greatest is not above most.
func drawnSpan(r *rand.Rand, most int) api.Span {
	one := func() int {
		switch r.Intn(4) {
		case 0:
			return 0
		case 1:
			return most
		case 2:
			return r.Intn(12)
		}
		return r.Intn(most + 1)
	}
	a, b := one(), one()
	return span(min(a, b), max(a, b))
}

// drawnAddr answers an address of which there are few: near one another, with many noughts.
func drawnAddr(r *rand.Rand, v6 bool) api.Addr {
	a := zero(v6)
	for i := range wide(a) / 8 {
		if r.Intn(4) == 0 {
			a.B[i] = []byte{1, 10, 128, 255}[r.Intn(4)]
		}
	}
	return a
}

func drawnPrefix(r *rand.Rand, v6 bool) api.Prefix {
	a := drawnAddr(r, v6)
	return first(a, []int{0, 1, 8, 16, wide(a), r.Intn(wide(a) + 1)}[r.Intn(6)])
}

// drawnMatch answers a match that may be.
func drawnMatch(r *rand.Rand) api.Match {
	m := api.Match{Asks: uint8(r.Intn(64))}
	v6 := r.Intn(2) == 0
	x := api.Match{
		In: drawnSpan(r, 255), Src: drawnPrefix(r, v6), Dst: drawnPrefix(r, v6), Proto: []uint8{6, 17}[r.Intn(2)],
		SrcPort: drawnSpan(r, 65535), DstPort: drawnSpan(r, 65535),
	}
	if m.Asks&48 != 0 {
		m.Asks |= 8
	} else if r.Intn(2) == 0 {
		x.Proto = []uint8{0, 1, 58, 255}[r.Intn(4)]
	}
	for field := range 6 {
		if m.Asks>>field&1 == 1 {
			m = copied(m, x, field)
		}
	}
	return m
}

// drawnNear answers a match that may be and that has most fields of m, or narrower ones.
func drawnNear(r *rand.Rand, m api.Match) api.Match {
	for {
		n := m
		for range 1 + r.Intn(3) {
			field := r.Intn(6)
			switch r.Intn(4) {
			case 0:
				n = without(n, 1<<field)
			case 1:
				n = both(n, drawnMatch(r))
			case 2:
				n = narrower(r, n)
			case 3:
				n.Asks |= 1 << field
				n = copied(n, drawnMatch(r), field)
			}
		}
		if mayBe(n) {
			return n
		}
	}
}

// narrower answers a match with less in a field, or with as much or a number more; it need not be one that may be.
func narrower(r *rand.Rand, m api.Match) api.Match {
	less := func(s api.Span) api.Span {
		return span(int(s.From)+r.Intn(3)-1, int(s.To)-r.Intn(3)+1)
	}
	longer := func(p api.Prefix) api.Prefix {
		return first(last(p), min(wide(p.Addr), p.Bits+r.Intn(3)))
	}
	switch r.Intn(5) {
	case 0:
		m.In = less(m.In)
	case 1:
		m.Src = longer(m.Src)
	case 2:
		m.Dst = longer(m.Dst)
	case 3:
		m.SrcPort = less(m.SrcPort)
	case 4:
		m.DstPort = less(m.DstPort)
	}
	return m
}

// aboutSpan answers the ends of the numbers, and those beside them, of those up to most.
func aboutSpan(s api.Span, most int) []int {
	list := []int{0, most}
	for _, v := range []int{int(s.From), int(s.To)} {
		list = append(list, v-1, v, v+1)
	}
	return slices.DeleteFunc(list, func(v int) bool { return v < 0 || v > most })
}

// aboutPrefix answers the first and the last address of a prefix, and what parts from these at its last bit; the same of the least prefix of the kind, if it is not of that one.
func aboutPrefix(p api.Prefix, v6 bool) []api.Addr {
	if p.Addr.V6 != v6 {
		return []api.Addr{zero(v6)}
	}
	list := []api.Addr{p.Addr, last(p)}
	if p.Bits > 0 {
		list = append(list, flip(p.Addr, p.Bits-1), flip(last(p), p.Bits-1))
	}
	return list
}

// drawnPack answers a packet whose fields are about those of the match; usual if it is to be, else of any kind.
func drawnPack(r *rand.Rand, m api.Match, usual bool) pack {
	v6 := r.Intn(2) == 0
	if m.Asks&2 != 0 {
		v6 = m.Src.Addr.V6
	} else if m.Asks&4 != 0 {
		v6 = m.Dst.Addr.V6
	}
	x := pack{one(r, aboutSpan(m.In, 255)), api.Header{Src: one(r, aboutPrefix(m.Src, v6)), Dst: one(r, aboutPrefix(m.Dst, v6)), Proto: one(r, []uint8{m.Proto, m.Proto, m.Proto, 6, 17, 0, 1})}}
	if !usual {
		x.in = one(r, append(anyPorts(), x.in, x.in, x.in, x.in))
		x.h.Src, x.h.Dst = one(r, append(notAddrs()[:2], x.h.Src, x.h.Src, zero(!v6))), one(r, append(notAddrs()[:2], x.h.Dst, x.h.Dst, zero(!v6)))
		x.h.Flags, x.h.Seq, x.h.Id = uint8(r.Uint32()), r.Uint32(), r.Uint32()
	}
	if !usual || x.h.Proto == 6 || x.h.Proto == 17 {
		x.h.SrcPort, x.h.DstPort = uint16(one(r, aboutSpan(m.SrcPort, 65535))), uint16(one(r, aboutSpan(m.DstPort, 65535)))
	}
	x.h.TTL, x.h.Class, x.h.Data = uint8(r.Uint32()), uint8(r.Uint32()), bytes.Repeat([]byte{7}, r.Intn(4))
	return x
}

// one answers one of the list.
func one[T any](r *rand.Rand, list []T) T { return list[r.Intn(len(list))] }

// world is matches that may be, made of few values of each field, and which of some usual packets meet each: of each two numbers, prefixes and protocols that the matches can tell from each other there is one.
type world struct {
	matches []api.Match
	packs   []pack
	met     []set
}

// set is a set of numbers, by their bits.
type set []uint64

func (s set) put(i int) { s[i/64] |= 1 << (i % 64) }

// within tells whether all of s is in t.
func (s set) within(t set) bool {
	for i := range s {
		if s[i]&^t[i] != 0 {
			return false
		}
	}
	return true
}

// apart tells whether nothing of s is in t.
func (s set) apart(t set) bool {
	for i := range s {
		if s[i]&t[i] != 0 {
			return false
		}
	}
	return true
}

// newSet answers a set with room for so many.
func newSet(n int) set { return make(set, (n+63)/64) }

// small answers the world, made once for all tests: nobody changes it.
var small = sync.OnceValue(func() world {
	w := world{matches: worldMatches(), packs: worldPacks()}
	for _, m := range w.matches {
		s := newSet(len(w.packs))
		for i, x := range w.packs {
			if meets(m, x) {
				s.put(i)
			}
		}
		w.met = append(w.met, s)
	}
	return w
})

// worldMatches answers all that can be put together of these.
func worldMatches() []api.Match {
	var list []api.Match
	for _, a := range []api.Match{{}, in(0, 255), in(3, 9), in(9, 11)} {
		for _, b := range worldPrefixes() {
			for _, c := range worldProtos() {
				list = append(list, both(both(a, b), c))
			}
		}
	}
	return list
}

func worldPrefixes() []api.Match {
	list := []api.Match{{}}
	for _, kind := range [][]api.Prefix{{read("0.0.0.0/0"), read("10.0.0.0/8"), read("10.1.0.0/16")}, {read("::/0"), read("2001::/16")}} {
		for _, p := range kind {
			list = append(list, src(p), dst(p))
			for _, q := range kind {
				list = append(list, both(src(p), dst(q)))
			}
		}
	}
	return list
}

func worldProtos() []api.Match {
	list := []api.Match{{}, proto(0), proto(6), proto(17), srcPort(17, 5, 9)}
	for _, a := range []api.Match{proto(6), srcPort(6, 0, 65535), srcPort(6, 5, 9)} {
		for _, b := range []api.Match{proto(6), dstPort(6, 0, 65535), dstPort(6, 5, 9)} {
			if a.Asks|b.Asks != 8 {
				list = append(list, both(a, b))
			}
		}
	}
	return list
}

func worldPacks() []pack {
	addrs := []api.Addr{zero(false), four(10, 0, 0, 0), four(10, 1, 0, 0), zero(true), six(0x2001, 0)}
	var list []pack
	for _, in := range []int{0, 3, 9, 10, 255} {
		for _, a := range addrs {
			for _, b := range addrs {
				if a.V6 == b.V6 {
					for _, h := range worldHeaders() {
						h.Src, h.Dst = a, b
						list = append(list, pack{in, h})
					}
				}
			}
		}
	}
	return list
}

// worldHeaders answers headers without addresses.
func worldHeaders() []api.Header {
	list := []api.Header{{}, {Proto: 1}}
	for _, x := range []uint8{6, 17} {
		for _, a := range []uint16{0, 5, 10} {
			for _, b := range []uint16{0, 5, 10} {
				list = append(list, api.Header{Proto: x, SrcPort: a, DstPort: b})
			}
		}
	}
	return list
}

// found answers a usual packet that meets n and, as it is to, m, too, or not m; false, if there is none. It looks, of each kind of addresses and each protocol that can make a difference, at each field by itself, at both ends of what is asked of it and just beyond: a packet's fields, its kind and its protocol given, may be anything whatever the others are.
func found(m, n api.Match, too bool) (pack, bool) {
	for _, v6 := range []bool{false, true} {
		for _, proto := range []uint8{0, 1, 6, 17, m.Proto, n.Proto, m.Proto + 1} {
			x := pack{0, api.Header{Src: zero(v6), Dst: zero(v6), Proto: proto}}
			all, some := true, false
			for field := range 6 {
				y, ok := chosen(m, n, field, x, too)
				all = all && ok && (!too || holds(m, field, y))
				some = some || !holds(m, field, y)
				x = y
			}
			if all && (too || some) {
				return x, true
			}
		}
	}
	return pack{}, false
}

// chosen answers the packet with such a field as holds of n, and, if it can be, of m, too, or not of m; false, if none holds of n.
func chosen(m, n api.Match, field int, x pack, too bool) (pack, bool) {
	best, ok := x, false
	for _, y := range about(m, n, field, x) {
		if holds(n, field, y) && (!ok || holds(m, field, y) == too) {
			best, ok = y, true
		}
	}
	return best, ok
}

// about answers the packet with whatever the field may be that can make a difference.
func about(m, n api.Match, field int, x pack) []pack {
	list := []pack{x}
	put := func(change func(y *pack)) {
		y := x
		change(&y)
		list = append(list, y)
	}
	for _, z := range []api.Match{m, n} {
		switch {
		case field == 0:
			for _, v := range aboutSpan(z.In, 255) {
				put(func(y *pack) { y.in = v })
			}
		case field == 1:
			for _, a := range aboutPrefix(z.Src, x.h.Src.V6) {
				put(func(y *pack) { y.h.Src = a })
			}
		case field == 2:
			for _, a := range aboutPrefix(z.Dst, x.h.Dst.V6) {
				put(func(y *pack) { y.h.Dst = a })
			}
		case field == 4 && (x.h.Proto == 6 || x.h.Proto == 17):
			for _, v := range aboutSpan(z.SrcPort, 65535) {
				put(func(y *pack) { y.h.SrcPort = uint16(v) })
			}
		case field == 5 && (x.h.Proto == 6 || x.h.Proto == 17):
			for _, v := range aboutSpan(z.DstPort, 65535) {
				put(func(y *pack) { y.h.DstPort = uint16(v) })
			}
		}
	}
	return list
}
