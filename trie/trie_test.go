package trie_test

import (
	"iter"
	"math"
	"math/rand"
	"slices"
	"testing"

	"patchbay/api"
	"patchbay/prefix"
	"patchbay/trie"
)

// example is the trie of the chapter's examples.
func example(t *testing.T) *trie.Trie {
	t.Helper()
	return numbered(t, "10.0.0.0/8 10.1.0.0/16 10.2.0.0/16 ::/0")
}

// chosen answers those of the list whose bit is set, with numbers.
func chosen(list []api.Prefix, which int) held {
	h := held{}
	for i, p := range list {
		if which>>i&1 == 1 {
			h[p] = numbers()[i%len(numbers())]
		}
	}
	return h
}

func TestP181New(t *testing.T) {
	x := trie.New()
	is(t, x, held{})
	asked(t, x, held{}, world(rand.New(rand.NewSource(1811))))
	if trie.New() == x {
		t.Errorf("New answers the same trie twice")
	}
}

// All tries of a small tree, wherever it stands, of whatever order their routes are.
func TestP181Of(t *testing.T) {
	r := rand.New(rand.NewSource(1812))
	for _, top := range tops(2) {
		whole := tree(top, 2)
		for which := range 1 << len(whole) {
			h := chosen(whole, which)
			x := of(t, h.routes(r)...)
			is(t, x, h)
			asked(t, x, h, whole)
		}
	}
}

func TestP181OfDrawn(t *testing.T) {
	r := rand.New(rand.NewSource(1813))
	for range 40 {
		list, h := world(r), held{}
		for _, p := range list {
			if r.Intn(3) == 0 {
				h[p] = r.Int() - r.Int()
			}
		}
		x := of(t, h.routes(r)...)
		is(t, x, h)
		asked(t, x, h, list)
	}
}

func TestP181OfNothing(t *testing.T) {
	is(t, of(t), held{})
	is(t, of(t, []api.Route{}...), held{})
	is(t, of(t, api.Route{}), held{read("0.0.0.0/0"): 0})
}

func TestP181OfOnePrefixTwice(t *testing.T) {
	p, q := read("10.0.0.0/8"), read("10.0.0.0/9")
	for _, a := range numbers() {
		for _, b := range numbers() {
			is(t, of(t, api.Route{To: p, Out: a}, api.Route{To: p, Out: b}), held{p: b})
			is(t, of(t, api.Route{To: p, Out: a}, api.Route{To: q, Out: 7}, api.Route{To: p, Out: b}, api.Route{To: q, Out: b}), held{p: b, q: b})
		}
	}
}

func TestP181OfWhatMayNotBe(t *testing.T) {
	good := api.Route{To: read("10.0.0.0/8"), Out: 1}
	for _, p := range notPrefixes() {
		bad := api.Route{To: p, Out: 2}
		for _, l := range [][]api.Route{{bad}, {bad, good}, {good, bad}, {good, good, bad, good}, {bad, bad}} {
			if x, e := trie.Of(l...); x != nil || e != api.ErrPrefix {
				t.Fatalf("Of(%v): %v, %v", l, x, e)
			}
		}
	}
}

// What is handed in is neither changed nor kept, nor is the room behind it.
func TestP181OfKeepsNothing(t *testing.T) {
	whole := []api.Route{{To: read("10.0.0.0/16"), Out: 1}, {To: read("10.0.0.0/8"), Out: 2}, {To: read("10.0.0.0/16"), Out: 3}, {To: read("::/0"), Out: 4}}
	want := slices.Clone(whole)
	x := of(t, whole[:3]...)
	if !slices.Equal(whole, want) {
		t.Errorf("Of changed what it was handed: %v", whole)
	}
	for i := range whole {
		whole[i] = api.Route{To: read("::1/128"), Out: 9}
	}
	is(t, x, held{read("10.0.0.0/16"): 3, read("10.0.0.0/8"): 2})
}

func TestP181Len(t *testing.T) {
	x := example(t)
	if n := x.Len(); n != 4 {
		t.Errorf("Len of the example: %d", n)
	}
	for i, p := range line(six(0x2001, 0xdb8)) {
		if n := x.Len(); n != 4+max(i-1, 0) {
			t.Errorf("Len: %d behind %d of a line, the first of which was there", n, i)
		}
		x = put(t, x, p, i)
	}
}

func TestP181None(t *testing.T) {
	for i, x := range nones(t) {
		if n := x.Len(); n != 0 {
			t.Errorf("none %d: Len %d", i, n)
		}
	}
}

// Every Put and every Cut of all tries of a small tree.
func TestP182PutAndCut(t *testing.T) {
	r := rand.New(rand.NewSource(1821))
	for _, top := range tops(2) {
		whole := tree(top, 2)
		for which := range 1 << len(whole) {
			h := chosen(whole, which)
			x := of(t, h.routes(r)...)
			for i, p := range whole {
				is(t, put(t, x, p, i), h.with(p, i))
				if _, ok := h[p]; ok {
					is(t, cut(t, x, p), h.without(p))
				} else if u, e := x.Cut(p); u != nil || e != api.ErrRange {
					t.Fatalf("%v: Cut(%v): %v, %v", h, p, u, e)
				}
			}
			is(t, x, h)
		}
	}
}

func TestP182Examples(t *testing.T) {
	x, p := example(t), read("10.1.0.0/16")
	u := cut(t, x, p)
	if got := u.Shape(); !slices.Equal(got, reads("10.0.0.0/8 10.2.0.0/16 ::/0")) {
		t.Errorf("Shape behind Cut: %v", got)
	}
	if q, v, ok := u.Find(addr("10.1.2.3")); q != read("10.0.0.0/8") || v != 1 || !ok {
		t.Errorf("Find behind Cut: %v, %d, %v", q, v, ok)
	}
	if q, v, ok := x.Find(addr("10.1.2.3")); q != p || v != 2 || !ok {
		t.Errorf("Find of the trie that was asked to Cut: %v, %d, %v", q, v, ok)
	}
	if w, e := u.Cut(p); w != nil || e != api.ErrRange {
		t.Errorf("Cut again: %v, %v", w, e)
	}
	bad := api.Prefix{Addr: addr("10.0.0.1"), Bits: 8}
	if w, e := x.Put(bad, 1); w != nil || e != api.ErrPrefix {
		t.Errorf("Put of 10.0.0.1 of 8 bits: %v, %v", w, e)
	}
	if w, e := trie.Of(api.Route{To: bad}); w != nil || e != api.ErrPrefix {
		t.Errorf("Of 10.0.0.1 of 8 bits: %v, %v", w, e)
	}
}

// What parts two prefixes is not one that the trie has, till it is put.
func TestP182Partings(t *testing.T) {
	x, p := example(t), read("10.0.0.0/14")
	if u, e := x.Cut(p); u != nil || e != api.ErrRange {
		t.Errorf("Cut of a parting: %v, %v", u, e)
	}
	u := put(t, x, p, 0)
	if n := u.Len(); n != 5 || !slices.Equal(u.Shape(), x.Shape()) {
		t.Errorf("with the parting: Len %d, Shape %v", n, u.Shape())
	}
	if q, v, ok := u.Find(addr("10.3.0.0")); q != p || v != 0 || !ok {
		t.Errorf("Find: %v, %d, %v", q, v, ok)
	}
	if w := cut(t, u, p); !trie.Same(w, x) || !slices.Equal(w.Shape(), x.Shape()) {
		t.Errorf("without it again: %v", w.Shape())
	}
}

// A line is as deep as a trie can be: each of its prefixes covers all that have more bits.
func TestP182Lines(t *testing.T) {
	r := rand.New(rand.NewSource(1822))
	for _, a := range []api.Addr{four(0, 0, 0, 0), four(255, 255, 255, 255), four(170, 85, 170, 85), six(), last(first(six(), 0)), six(0x2001, 0xdb8, 0, 1, 0x8000, 0, 0, 0x8001)} {
		deep := line(a)
		for _, order := range [][]int{rising(len(deep)), falling(len(deep)), r.Perm(len(deep))} {
			x, h := trie.New(), held{}
			for _, i := range order {
				x, h[deep[i]] = put(t, x, deep[i], i), i
			}
			is(t, x, h)
			asked(t, x, h, deep)
			for place := range wide(a) {
				finds(t, x, h, flip(a, place))
			}
			for _, i := range order {
				x = cut(t, x, deep[i])
				delete(h, deep[i])
				finds(t, x, h, a)
			}
			is(t, x, held{})
		}
	}
}

func rising(n int) []int {
	var list []int
	for i := range n {
		list = append(list, i)
	}
	return list
}

func falling(n int) []int {
	list := rising(n)
	slices.Reverse(list)
	return list
}

// Two prefixes that part at each place.
func TestP182PartAtEachPlace(t *testing.T) {
	for _, a := range []api.Addr{four(10, 129, 66, 7), six(0x2001, 0xdb8, 0, 1, 0, 0, 0xffff, 0x42)} {
		for place := range wide(a) {
			for _, bits := range []int{place + 1, min(place+9, wide(a)), wide(a)} {
				p, q := first(a, bits), first(flip(a, place), bits)
				h := held{p: 1, q: 2}
				is(t, put(t, put(t, trie.New(), p, 1), q, 2), h)
				is(t, put(t, put(t, trie.New(), q, 2), p, 1), h)
				finds(t, of(t, api.Route{To: p, Out: 1}, api.Route{To: q, Out: 2}), h, flip(a, place))
			}
		}
	}
}

func TestP182WhatMayNotBe(t *testing.T) {
	for _, x := range []*trie.Trie{trie.New(), example(t), numbered(t, "0.0.0.0/0 ::/0")} {
		shape := x.Shape()
		for _, p := range notPrefixes() {
			if u, e := x.Put(p, 1); u != nil || e != api.ErrPrefix {
				t.Fatalf("Put(%v): %v, %v", p, u, e)
			}
			if u, e := x.Cut(p); u != nil || e != api.ErrPrefix {
				t.Fatalf("Cut(%v): %v, %v", p, u, e)
			}
		}
		if !slices.Equal(x.Shape(), shape) {
			t.Errorf("Shape: %v, not %v", x.Shape(), shape)
		}
	}
}

// The two kinds' prefixes with the same bits are not the same ones.
func TestP182Kinds(t *testing.T) {
	for bits := range 33 {
		p := first(four(10, 0, 0, 0), bits)
		q := p
		q.Addr.V6 = true
		x := put(t, trie.New(), p, 1)
		if u, e := x.Cut(q); u != nil || e != api.ErrRange {
			t.Errorf("Cut(%v) of %v: %v, %v", q, p, u, e)
		}
		u := put(t, x, q, 2)
		is(t, u, held{p: 1, q: 2})
		is(t, cut(t, u, p), held{q: 2})
		is(t, cut(t, u, q), held{p: 1})
	}
}

func TestP182None(t *testing.T) {
	for i, x := range nones(t) {
		for _, p := range append(notPrefixes(), read("10.0.0.0/8"), read("::/0"), api.Prefix{}) {
			if u, e := x.Put(p, 1); u != nil || e != api.ErrNil {
				t.Fatalf("none %d: Put(%v): %v, %v", i, p, u, e)
			}
			if u, e := x.Cut(p); u != nil || e != api.ErrNil {
				t.Fatalf("none %d: Cut(%v): %v, %v", i, p, u, e)
			}
		}
	}
}

// What Put and Cut make is small beside a trie with thousands of prefixes: all else is shared.
func TestP182Shares(t *testing.T) {
	var l []api.Route
	for i := range 1 << 13 {
		l = append(l, api.Route{To: first(four(byte(i>>5), byte(i<<3), 0, 0), 13), Out: i})
	}
	x := of(t, l...)
	p, q := read("10.8.0.0/13"), read("10.8.1.0/24")
	for what, made := range map[string]float64{
		"Put of what is there": testing.AllocsPerRun(20, func() { x.Put(p, 5) }),
		"Put of another one":   testing.AllocsPerRun(20, func() { x.Put(q, 5) }),
		"Cut":                  testing.AllocsPerRun(20, func() { x.Cut(p) }),
	} {
		if made > 100 {
			t.Errorf("%s makes %v things", what, made)
		}
	}
}

func TestP183Get(t *testing.T) {
	x := example(t)
	for s, want := range map[string]int{"10.0.0.0/8": 1, "10.1.0.0/16": 2, "10.2.0.0/16": 3, "::/0": 4} {
		if v, ok := x.Get(read(s)); v != want || !ok {
			t.Errorf("Get(%s): %d, %v", s, v, ok)
		}
	}
	for _, p := range append(reads("10.0.0.0/14 10.0.0.0/7 10.0.0.0/9 0.0.0.0/0 10.1.0.0/17 10.0.0.0/15 10.3.0.0/16 10.1.0.0/32 ::/1 ::1/128 a00::/8"), notPrefixes()...) {
		if v, ok := x.Get(p); v != 0 || ok {
			t.Errorf("Get(%v): %d, %v", p, v, ok)
		}
	}
	for _, v := range numbers() {
		if got, ok := put(t, x, read("10.1.0.0/16"), v).Get(read("10.1.0.0/16")); got != v || !ok {
			t.Errorf("Get of what was put with %d: %d, %v", v, got, ok)
		}
	}
}

func TestP183Find(t *testing.T) {
	x := example(t)
	for a, want := range map[string]struct {
		p string
		v int
	}{
		"10.1.2.3": {"10.1.0.0/16", 2}, "10.1.0.0": {"10.1.0.0/16", 2}, "10.1.255.255": {"10.1.0.0/16", 2}, "10.2.0.0": {"10.2.0.0/16", 3},
		"10.9.0.0": {"10.0.0.0/8", 1}, "10.0.0.0": {"10.0.0.0/8", 1}, "10.3.0.0": {"10.0.0.0/8", 1}, "10.255.255.255": {"10.0.0.0/8", 1},
		"::1": {"::/0", 4}, "::": {"::/0", 4}, "ffff:ffff:ffff:ffff:ffff:ffff:ffff:ffff": {"::/0", 4},
	} {
		if p, v, ok := x.Find(addr(a)); p != read(want.p) || v != want.v || !ok {
			t.Errorf("Find(%s): %v, %d, %v", a, p, v, ok)
		}
	}
	for _, a := range append(notAddrs(), addr("11.0.0.0"), addr("9.255.255.255"), addr("0.0.0.0"), addr("255.255.255.255")) {
		if p, v, ok := x.Find(a); p != (api.Prefix{}) || v != 0 || ok {
			t.Errorf("Find(%v): %v, %d, %v", a, p, v, ok)
		}
	}
}

// Addresses that may not be have no prefix, whatever there is.
func TestP183FindOfNoAddress(t *testing.T) {
	x := numbered(t, "0.0.0.0/0 10.0.0.0/8 10.0.0.0/32 ::/0")
	for _, a := range notAddrs() {
		if p, v, ok := x.Find(a); p != (api.Prefix{}) || v != 0 || ok {
			t.Errorf("Find(%v): %v, %d, %v", a, p, v, ok)
		}
	}
}

// A prefix of each number of bits, alone.
func TestP183OfEachBits(t *testing.T) {
	for _, a := range []api.Addr{four(10, 129, 66, 7), six(0x2001, 0xdb8, 0, 1, 0, 0, 0xffff, 0x42)} {
		for bits := range wide(a) + 1 {
			p, _ := prefix.Of(a, bits)
			x := put(t, trie.New(), p, math.MaxInt-bits)
			h := held{p: math.MaxInt - bits}
			for place := range wide(a) {
				finds(t, x, h, flip(a, place))
			}
			asked(t, x, h, line(a))
		}
	}
}

func TestP183None(t *testing.T) {
	for i, x := range nones(t) {
		for _, a := range []api.Addr{four(10, 0, 0, 0), six(), six(0, 0, 0, 0, 0, 0, 0, 1)} {
			if p, v, ok := x.Find(a); p != (api.Prefix{}) || v != 0 || ok {
				t.Errorf("none %d: Find(%v): %v, %d, %v", i, a, p, v, ok)
			}
		}
		for _, p := range reads("0.0.0.0/0 10.0.0.0/8 ::/0 ::1/128") {
			if v, ok := x.Get(p); v != 0 || ok {
				t.Errorf("none %d: Get(%v): %d, %v", i, p, v, ok)
			}
		}
	}
}

func TestP184Examples(t *testing.T) {
	x := example(t)
	h := held{read("10.0.0.0/8"): 1, read("10.1.0.0/16"): 2, read("10.2.0.0/16"): 3, read("::/0"): 4}
	for s, want := range map[string]string{
		"10.0.0.0/13": "10.1.0.0/16 10.2.0.0/16", "0.0.0.0/0": "10.0.0.0/8 10.1.0.0/16 10.2.0.0/16", "10.1.0.0/16": "10.1.0.0/16",
		"10.0.0.0/8": "10.0.0.0/8 10.1.0.0/16 10.2.0.0/16", "10.0.0.0/14": "10.1.0.0/16 10.2.0.0/16", "10.0.0.0/15": "10.1.0.0/16",
		"10.1.0.0/17": "", "11.0.0.0/8": "", "::/0": "::/0", "::/1": "",
	} {
		if got, wrong := gone(x.Under(read(s)), h); !slices.Equal(got, reads(want)) || wrong > 0 {
			t.Errorf("Under(%s): %v, %d wrong numbers", s, got, wrong)
		}
	}
	if got, wrong := gone(x.All(), h); !slices.Equal(got, reads("10.0.0.0/8 10.1.0.0/16 10.2.0.0/16 ::/0")) || wrong > 0 {
		t.Errorf("All: %v, %d wrong numbers", got, wrong)
	}
	if got := x.Shape(); !slices.Equal(got, reads("10.0.0.0/8 10.0.0.0/14 10.1.0.0/16 10.2.0.0/16 ::/0")) {
		t.Errorf("Shape: %v", got)
	}
}

func TestP184UnderWhatMayNotBe(t *testing.T) {
	x := numbered(t, "0.0.0.0/0 10.0.0.0/8 10.0.0.0/32 10.0.0.1/32 ::/0 ::/1 ::/128 2001::/16")
	for _, p := range notPrefixes() {
		if got, _ := gone(x.Under(p), nil); len(got) > 0 {
			t.Errorf("Under(%v): %v", p, got)
		}
	}
}

// left answers what is told till so many were, when it is left, and what is told when it is gone through again.
func left(told iter.Seq2[api.Prefix, int], n int) (some, again []api.Prefix) {
	for p := range told {
		if len(some) == n {
			break
		}
		some = append(some, p)
	}
	for p := range told {
		again = append(again, p)
	}
	return some, again
}

func TestP184LeftEarly(t *testing.T) {
	x := numbered(t, "0.0.0.0/0 10.0.0.0/8 10.1.0.0/16 10.2.0.0/16 10.2.3.4/32 128.0.0.0/1 ::/1 2001::/16 fe80::/10 fe80::1/128")
	all, _ := gone(x.All(), nil)
	under, _ := gone(x.Under(read("10.0.0.0/7")), nil)
	for n := range len(all) + 2 {
		if some, again := left(x.All(), n); !slices.Equal(some, all[:min(n, len(all))]) || !slices.Equal(again, all) {
			t.Errorf("All left behind %d: %v, and again: %v", n, some, again)
		}
		if some, again := left(x.Under(read("10.0.0.0/7")), n); !slices.Equal(some, under[:min(n, len(under))]) || !slices.Equal(again, under) {
			t.Errorf("Under left behind %d: %v, and again: %v", n, some, again)
		}
	}
}

// An iterator tells the trie that was asked for it, also where others are made of that one meanwhile, and where it is gone through within itself.
func TestP184WhileOthersAreMade(t *testing.T) {
	x := numbered(t, "10.0.0.0/8 10.1.0.0/16 10.2.0.0/16 ::/0 ::1/128")
	for _, told := range []iter.Seq2[api.Prefix, int]{x.All(), x.Under(read("10.0.0.0/8")), x.Under(read("::/0"))} {
		want, _ := gone(told, nil)
		var got []api.Prefix
		u := x
		for p, v := range told {
			got = append(got, p)
			if within, _ := gone(told, nil); !slices.Equal(within, want) {
				t.Fatalf("gone through within itself: %v, not %v", within, want)
			}
			u = put(t, cut(t, u, p), read("10.1.0.0/17"), v)
		}
		if !slices.Equal(got, want) || u.Len() != x.Len()-len(want)+1 {
			t.Errorf("while others were made: %v, not %v; Len of the last one: %d", got, want, u.Len())
		}
	}
}

// A list that was answered is nobody else's, nor is the room behind it.
func TestP184ShapeIsNewMemory(t *testing.T) {
	for _, x := range []*trie.Trie{example(t), numbered(t, "::/0"), numbered(t, "10.0.0.0/8 10.1.0.0/16 10.2.0.0/16 10.3.0.0/16 ::1/128")} {
		a, b := x.Shape(), x.Shape()
		want := slices.Clone(b)
		for i := range a[:cap(a)] {
			a[:cap(a)][i] = api.Prefix{Bits: 77}
		}
		if !slices.Equal(b, want) || !slices.Equal(x.Shape(), want) {
			t.Errorf("what was answered is shared: %v, %v; not %v", b, x.Shape(), want)
		}
	}
}

func TestP184None(t *testing.T) {
	for i, x := range nones(t) {
		if l := x.Shape(); len(l) > 0 {
			t.Errorf("none %d: Shape %v", i, l)
		}
		if l, _ := gone(x.All(), nil); len(l) > 0 {
			t.Errorf("none %d: All %v", i, l)
		}
		for _, p := range append(notPrefixes()[:5], read("0.0.0.0/0"), read("::/0"), read("10.0.0.0/8")) {
			if l, _ := gone(x.Under(p), nil); len(l) > 0 {
				t.Errorf("none %d: Under(%v) %v", i, p, l)
			}
		}
	}
}

// same tells of a Same, asked both ways, that does not answer that.
func same(t *testing.T, a, b *trie.Trie, want bool) {
	t.Helper()
	if x, y := trie.Same(a, b), trie.Same(b, a); x != want || y != want {
		t.Fatalf("Same of %v and %v: %v, %v", a.Shape(), b.Shape(), x, y)
	}
}

// All tries of a small tree are held against all others.
func TestP185Same(t *testing.T) {
	r := rand.New(rand.NewSource(185))
	for _, top := range tops(2) {
		whole := tree(top, 2)
		var list, twins []*trie.Trie
		for which := range 1 << len(whole) {
			h := held{}
			for p := range chosen(whole, which) {
				h[p] = 5
			}
			list, twins = append(list, of(t, h.routes(r)...)), append(twins, of(t, h.routes(r)...))
		}
		for i, a := range list {
			for j, b := range twins {
				same(t, a, b, i == j)
				same(t, a, list[j], i == j)
			}
		}
	}
}

func TestP185OtherNumbers(t *testing.T) {
	x := example(t)
	for p := range x.All() {
		v, _ := x.Get(p)
		for _, n := range append(numbers(), v, v+1, v-1) {
			same(t, x, put(t, x, p, n), n == v)
		}
	}
	// A prefix with the number 0, and a parting, which has none.
	a := numbered(t, "10.1.0.0/16 10.2.0.0/16")
	same(t, a, put(t, a, read("10.0.0.0/14"), 0), false)
}

func TestP185Examples(t *testing.T) {
	x, p := example(t), read("10.1.0.0/16")
	u := cut(t, x, p)
	same(t, put(t, u, p, 2), x, true)
	same(t, u, x, false)
	same(t, trie.New(), trie.New(), true)
	same(t, trie.New(), x, false)
	same(t, numbered(t, "10.0.0.0/8"), numbered(t, "a00::/8"), false)
	same(t, numbered(t, "0.0.0.0/0"), numbered(t, "::/0"), false)
}

func TestP185None(t *testing.T) {
	x := numbered(t, "0.0.0.0/0 10.0.0.0/8 ::/0")
	for _, a := range nones(t) {
		for _, b := range append(nones(t), a, x, trie.New()) {
			same(t, a, b, false)
		}
	}
}
