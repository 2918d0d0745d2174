package trie_test

import (
	"iter"
	"maps"
	"math"
	"math/rand"
	"slices"
	"strings"
	"testing"

	"patchbay/api"
	"patchbay/plays"
	"patchbay/prefix"
	"patchbay/trie"
)

// four answers an address of IPv4.
func four(a, b, c, d byte) api.Addr { return api.Addr{B: [16]byte{a, b, c, d}} }

// six answers the address of IPv6 that begins with these numbers; all behind them are 0.
func six(list ...uint16) api.Addr {
	a := api.Addr{V6: true}
	for i, v := range list {
		a.B[2*i], a.B[2*i+1] = byte(v>>8), byte(v)
	}
	return a
}

// wide answers how many bits an address has.
func wide(a api.Addr) int {
	if a.V6 {
		return 128
	}
	return 32
}

// flip answers the address with another bit at the place.
func flip(a api.Addr, place int) api.Addr {
	a.B[place/8] ^= 1 << (7 - place%8)
	return a
}

// row answers the address's bits as a text of 0 and 1.
func row(a api.Addr) string {
	var s strings.Builder
	for i := range wide(a) {
		s.WriteByte('0' + a.B[i/8]>>(7-i%8)&1)
	}
	return s.String()
}

// fromRow answers the prefix whose bits are these.
func fromRow(v6 bool, s string) api.Prefix {
	a := api.Addr{V6: v6}
	for i, x := range s {
		if x == '1' {
			a = flip(a, i)
		}
	}
	return api.Prefix{Addr: a, Bits: len(s)}
}

// first answers the prefix of an address's first bits.
func first(a api.Addr, bits int) api.Prefix { return fromRow(a.V6, row(a)[:bits]) }

// read answers the prefix of the text.
func read(s string) api.Prefix {
	p, e := prefix.Read(s)
	if e != api.OK {
		panic(s)
	}
	return p
}

// addr answers the address of the text.
func addr(s string) api.Addr {
	a, e := prefix.ReadAddr(s)
	if e != api.OK {
		panic(s)
	}
	return a
}

// reads answers the prefixes of the texts, which have spaces between.
func reads(texts string) []api.Prefix {
	var list []api.Prefix
	for _, s := range strings.Fields(texts) {
		list = append(list, read(s))
	}
	return list
}

// has and covers tell of what may be whether p has the address, and covers q, as the chapter of prefixes says it.
func has(p api.Prefix, a api.Addr) bool {
	return p.Addr.V6 == a.V6 && strings.HasPrefix(row(a), row(p.Addr)[:p.Bits])
}

func covers(p, q api.Prefix) bool { return p.Bits <= q.Bits && has(p, q.Addr) }

// both answers the longest prefix that covers two of one kind.
func both(p, q api.Prefix) api.Prefix {
	bits := min(p.Bits, q.Bits)
	for !has(first(p.Addr, bits), q.Addr) {
		bits--
	}
	return first(p.Addr, bits)
}

// held is what a trie has: the number of each of its prefixes. It answers what a trie is to answer, as the chapter says it.
type held map[api.Prefix]int

// sorted answers prefixes in order, each once.
func sorted(list []api.Prefix) []api.Prefix {
	slices.SortFunc(list, prefix.Compare)
	return slices.Compact(list)
}

func (h held) all() []api.Prefix { return sorted(slices.Collect(maps.Keys(h))) }

func (h held) under(p api.Prefix) []api.Prefix {
	return slices.DeleteFunc(h.all(), func(q api.Prefix) bool { return !covers(p, q) })
}

func (h held) shape() []api.Prefix {
	list := h.all()
	for p := range h {
		for q := range h {
			if p.Addr.V6 == q.Addr.V6 {
				list = append(list, both(p, q))
			}
		}
	}
	return sorted(list)
}

func (h held) find(a api.Addr) (best api.Prefix, v int, ok bool) {
	for p, n := range h {
		if has(p, a) && (!ok || p.Bits > best.Bits) {
			best, v, ok = p, n, true
		}
	}
	return best, v, ok
}

// with and without answer it with p and v, and without p. It stays as it was.
func (h held) with(p api.Prefix, v int) held {
	h = maps.Clone(h)
	h[p] = v
	return h
}

func (h held) without(p api.Prefix) held {
	h = maps.Clone(h)
	delete(h, p)
	return h
}

// routes answers it as routes, in an order of r's.
func (h held) routes(r *rand.Rand) []api.Route {
	var list []api.Route
	for _, p := range h.all() {
		list = append(list, api.Route{To: p, Out: h[p]})
	}
	r.Shuffle(len(list), func(i, j int) { list[i], list[j] = list[j], list[i] })
	return list
}

// of is Of what may be.
func of(t *testing.T, l ...api.Route) *trie.Trie {
	t.Helper()
	x, e := trie.Of(l...)
	if e != api.OK || x == nil {
		t.Fatalf("Of(%v): %v, %v", l, x, e)
	}
	return x
}

// numbered answers a trie of the prefixes of the texts, with the numbers from 1 on.
func numbered(t *testing.T, texts string) *trie.Trie {
	t.Helper()
	var l []api.Route
	for i, p := range reads(texts) {
		l = append(l, api.Route{To: p, Out: i + 1})
	}
	return of(t, l...)
}

// put and cut are Put and Cut that come to something.
func put(t *testing.T, x *trie.Trie, p api.Prefix, v int) *trie.Trie {
	t.Helper()
	u, e := x.Put(p, v)
	if e != api.OK || u == nil {
		t.Fatalf("Put(%v, %d): %v, %v", p, v, u, e)
	}
	return u
}

func cut(t *testing.T, x *trie.Trie, p api.Prefix) *trie.Trie {
	t.Helper()
	u, e := x.Cut(p)
	if e != api.OK || u == nil {
		t.Fatalf("Cut(%v): %v, %v", p, u, e)
	}
	return u
}

// gone answers what an iterator tells, and how often it tells a prefix with another number than h's.
func gone(told iter.Seq2[api.Prefix, int], h held) (list []api.Prefix, wrong int) {
	for p, v := range told {
		list = append(list, p)
		if n, ok := h[p]; !ok || n != v {
			wrong++
		}
	}
	return list, wrong
}

// is tells of a trie that does not have just that.
func is(t *testing.T, x *trie.Trie, h held) {
	t.Helper()
	if n := x.Len(); n != len(h) {
		t.Fatalf("%v: Len %d", h, n)
	}
	if got, wrong := gone(x.All(), h); !slices.Equal(got, h.all()) || wrong > 0 {
		t.Fatalf("%v: All %v, %d wrong numbers", h, got, wrong)
	}
	if got, want := x.Shape(), h.shape(); !slices.Equal(got, want) {
		t.Fatalf("%v: Shape %v, not %v", h, got, want)
	}
	for p, n := range h {
		if v, ok := x.Get(p); v != n || !ok {
			t.Fatalf("%v: Get(%v): %d, %v", h, p, v, ok)
		}
	}
}

// asked tells of a trie that has that, and answers something else of one of these prefixes and of their addresses.
func asked(t *testing.T, x *trie.Trie, h held, list []api.Prefix) {
	t.Helper()
	for _, p := range list {
		want, there := h[p]
		if v, ok := x.Get(p); v != want || ok != there {
			t.Fatalf("%v: Get(%v): %d, %v", h, p, v, ok)
		}
		if got, wrong := gone(x.Under(p), h); !slices.Equal(got, h.under(p)) || wrong > 0 {
			t.Fatalf("%v: Under(%v): %v, %d wrong numbers", h, p, got, wrong)
		}
		for _, a := range []api.Addr{p.Addr, last(p)} {
			finds(t, x, h, a)
		}
	}
}

// finds tells of a trie that has that, and does not find what it should of that address.
func finds(t *testing.T, x *trie.Trie, h held, a api.Addr) {
	t.Helper()
	p, v, ok := x.Find(a)
	if wantP, wantV, want := h.find(a); p != wantP || v != wantV || ok != want {
		t.Fatalf("%v: Find(%v): %v, %d, %v; not %v, %d, %v", h, a, p, v, ok, wantP, wantV, want)
	}
}

// last answers the last address that a prefix has.
func last(p api.Prefix) api.Addr {
	a := p.Addr
	for place := p.Bits; place < wide(a); place++ {
		a = flip(a, place)
	}
	return a
}

// tree answers a prefix and all that it covers with so many bits more at most.
func tree(top api.Prefix, deep int) []api.Prefix {
	list := []api.Prefix{top}
	if deep > 0 {
		bits := row(top.Addr)[:top.Bits]
		list = append(list, tree(fromRow(top.Addr.V6, bits+"0"), deep-1)...)
		list = append(list, tree(fromRow(top.Addr.V6, bits+"1"), deep-1)...)
	}
	return list
}

// tops are where a tree so deep may stand: at the beginning, across the end of a byte, at the end.
func tops(deep int) []api.Prefix {
	a, b := four(10, 129, 66, 7), six(0x2001, 0xdb8, 0, 1, 0, 0, 0xffff, 0x42)
	return []api.Prefix{
		first(a, 0), first(a, 7), first(a, 15), first(a, 32-deep),
		first(b, 0), first(b, 31), first(b, 63), first(b, 128-deep),
	}
}

// line answers all prefixes of the address, from none of its bits to all of them.
func line(a api.Addr) []api.Prefix {
	var list []api.Prefix
	for bits := range wide(a) + 1 {
		list = append(list, first(a, bits))
	}
	return list
}

// numbers are the least and the greatest, and some between.
func numbers() []int {
	return []int{0, 1, -1, 255, math.MinInt, math.MaxInt, 1 << 32, math.MinInt32}
}

// drawn answers a prefix whose address has many noughts.
func drawn(r *rand.Rand) api.Prefix {
	a := api.Addr{V6: r.Intn(2) == 0}
	for i := range wide(a) / 8 {
		if r.Intn(3) == 0 {
			a.B[i] = byte(r.Intn(256)) & byte(r.Intn(256))
		}
	}
	return first(a, r.Intn(wide(a)+1))
}

// world are prefixes of both kinds, many of them near one another, one beyond all others.
func world(r *rand.Rand) []api.Prefix {
	var list []api.Prefix
	for _, top := range tops(3) {
		list = append(list, tree(top, 3)...)
	}
	for range 30 {
		list = append(list, drawn(r))
	}
	return sorted(list)
}

// notAddrs are addresses of IPv4 with more than four bytes.
func notAddrs() []api.Addr {
	var list []api.Addr
	for i := 4; i < 16; i++ {
		for _, x := range []byte{1, 128, 255} {
			a := four(10, 0, 0, 0)
			a.B[i] = x
			list = append(list, a)
		}
	}
	return list
}

// notPrefixes are wrong in each way: too few bits and too many, a bit too far behind, an address that is none.
func notPrefixes() []api.Prefix {
	list := []api.Prefix{{Addr: four(10, 0, 0, 1), Bits: 8}}
	for _, a := range []api.Addr{four(0, 0, 0, 0), four(10, 0, 0, 0), six(), six(0x2001)} {
		for _, bits := range []int{math.MinInt, -129, -33, -8, -1, wide(a) + 1, wide(a) + 8, 129, 256 + 8, 1<<32 + 8, math.MaxInt} {
			list = append(list, api.Prefix{Addr: a, Bits: bits})
		}
		for _, bits := range []int{0, 1, 7, 8, 9, wide(a) - 1} {
			list = append(list, api.Prefix{Addr: flip(first(a, bits).Addr, bits), Bits: bits}, api.Prefix{Addr: flip(first(a, bits).Addr, wide(a)-1), Bits: bits})
		}
	}
	for _, a := range notAddrs() {
		list = append(list, api.Prefix{Addr: a, Bits: 8}, api.Prefix{Addr: a, Bits: 32}, api.Prefix{Addr: a})
	}
	return list
}

// nones are tries that are none: nil, one that no call made, copies.
func nones(t *testing.T) []*trie.Trie {
	x := numbered(t, "0.0.0.0/0 10.0.0.0/8 ::/0")
	return []*trie.Trie{nil, {}, plays.Copied(x), plays.Copied(trie.New()), plays.Copied(&trie.Trie{}), plays.Copied(put(t, x, read("::1/128"), 4))}
}
