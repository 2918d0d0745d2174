package trie_test

import (
	"maps"
	"math/rand"
	"slices"
	"sync"
	"testing"

	"patchbay/api"
	"patchbay/prefix"
	"patchbay/trie"
)

// detour answers a trie of that, to which others were put that were cut again, and some of whose own were cut and put again, in an order of r's.
func detour(t *testing.T, r *rand.Rand, h held, others []api.Prefix) *trie.Trie {
	t.Helper()
	x := trie.New()
	own := h.routes(r)
	for _, to := range own {
		if r.Intn(3) == 0 {
			x = put(t, x, to.To, to.Out-1)
		}
		for range r.Intn(4) {
			p := others[r.Intn(len(others))]
			if _, ok := x.Get(p); ok {
				x = cut(t, x, p)
			} else {
				x = put(t, x, p, r.Int())
			}
		}
		x = put(t, x, to.To, to.Out)
	}
	for p := range x.All() {
		if _, ok := h[p]; !ok {
			x = cut(t, x, p)
		}
	}
	for p, v := range h {
		x = put(t, x, p, v)
	}
	return x
}

func TestP186WhateverTheWay(t *testing.T) {
	r := rand.New(rand.NewSource(1861))
	for range 60 {
		list, h := world(r), held{}
		for _, p := range list {
			if r.Intn(4) == 0 {
				h[p] = r.Intn(3)
			}
		}
		want := of(t, h.routes(r)...)
		x := detour(t, r, h, list)
		is(t, x, h)
		same(t, x, want, true)
		if !slices.Equal(x.Shape(), want.Shape()) {
			t.Fatalf("Shape %v, not %v", x.Shape(), want.Shape())
		}
	}
}

// All orders in which the prefixes of a small tree may be put, and cut again.
func TestP186AllOrders(t *testing.T) {
	for _, list := range [][]api.Prefix{
		reads("10.0.0.0/8 10.0.0.0/9 10.128.0.0/9 10.0.0.0/10 10.64.0.0/10"),
		reads("10.0.0.0/16 10.1.0.0/16 10.2.0.0/16 10.3.0.0/16 10.0.0.0/14"),
		reads("::/0 8000::/1 ::/1 ::1/128 ffff::/16"),
	} {
		h := held{}
		for i, p := range list {
			h[p] = i
		}
		want := of(t, h.routes(rand.New(rand.NewSource(1862)))...)
		for order := range orders(len(list)) {
			x := trie.New()
			for _, i := range order {
				x = put(t, x, list[i], i)
			}
			same(t, x, want, true)
			less := maps.Clone(h)
			for _, i := range order {
				x = cut(t, x, list[i])
				delete(less, list[i])
				if !slices.Equal(x.Shape(), less.shape()) {
					t.Fatalf("cut by %v: %v, not %v", order, x.Shape(), less.shape())
				}
			}
			same(t, x, trie.New(), true)
		}
	}
}

// orders tells all orders of so many.
func orders(n int) func(func([]int) bool) {
	return func(yield func([]int) bool) {
		var from func(order []int) bool
		from = func(order []int) bool {
			if len(order) == n {
				return yield(order)
			}
			for i := range n {
				if !slices.Contains(order, i) && !from(append(slices.Clone(order), i)) {
					return false
				}
			}
			return true
		}
		from(nil)
	}
}

func TestP186ThereAndBack(t *testing.T) {
	r := rand.New(rand.NewSource(1863))
	for range 20 {
		list, h := world(r), held{}
		for _, p := range list {
			if r.Intn(3) == 0 {
				h[p] = r.Intn(5)
			}
		}
		x := of(t, h.routes(r)...)
		for _, p := range list {
			if v, ok := h[p]; ok {
				same(t, put(t, x, p, v), x, true)
				same(t, put(t, cut(t, x, p), p, v), x, true)
				same(t, cut(t, x, p), x, false)
				continue
			}
			u := put(t, x, p, 1)
			same(t, u, x, false)
			same(t, cut(t, u, p), x, true)
			if !slices.Equal(cut(t, u, p).Shape(), x.Shape()) {
				t.Fatalf("%v: Put and Cut of %v: %v", h, p, cut(t, u, p).Shape())
			}
		}
	}
}

func TestP187TheLongest(t *testing.T) {
	r := rand.New(rand.NewSource(187))
	for range 15 {
		list, h := world(r), held{}
		for _, p := range list {
			if r.Intn(3) == 0 {
				h[p] = r.Int()
			}
		}
		x := of(t, h.routes(r)...)
		for _, about := range list {
			for _, a := range []api.Addr{about.Addr, last(about), flip(about.Addr, r.Intn(wide(about.Addr)))} {
				longest(t, x, a)
			}
		}
		for p := range x.All() {
			if q, _, ok := x.Find(p.Addr); !ok || q.Bits < p.Bits {
				t.Fatalf("Find of the first address of %v: %v, %v", p, q, ok)
			}
		}
	}
}

// longest tells of a Find whose answer is not the longest of all prefixes that the trie tells of.
func longest(t *testing.T, x *trie.Trie, a api.Addr) {
	t.Helper()
	best, v, ok := x.Find(a)
	n, there := x.Get(best)
	if ok && (!prefix.Has(best, a) || !there || n != v) {
		t.Fatalf("Find(%v): %v, %d, where Get answers %d, %v", a, best, v, n, there)
	}
	for p := range x.All() {
		if prefix.Has(p, a) && (!ok || !prefix.Covers(p, best) || p != best && prefix.Covers(best, p)) {
			t.Fatalf("Find(%v): %v, %v, beside %v", a, best, ok, p)
		}
	}
}

// Tens of thousands of prefixes, found by looking each number of bits up, the most first.
func TestP187Many(t *testing.T) {
	r := rand.New(rand.NewSource(1872))
	h := held{}
	var l []api.Route
	for i := range 20000 {
		p := drawn(r)
		l = append(l, api.Route{To: p, Out: i})
		h[p] = i
	}
	x := of(t, l...)
	if x.Len() != len(h) {
		t.Fatalf("Len %d, not %d", x.Len(), len(h))
	}
	small(t, x)
	if got, wrong := gone(x.All(), h); !slices.Equal(got, h.all()) || wrong > 0 {
		t.Fatalf("All: %d, %d wrong numbers", len(got), wrong)
	}
	for range 20000 {
		a := drawn(r).Addr
		p, v, ok := x.Find(a)
		wantP, wantV, want := api.Prefix{}, 0, false
		for bits := wide(a); bits >= 0 && !want; bits-- {
			q, _ := prefix.Of(a, bits)
			if wantV, want = h[q]; want {
				wantP = q
			}
		}
		if p != wantP || v != wantV || ok != want {
			t.Fatalf("Find(%v): %v, %d, %v; not %v, %d, %v", a, p, v, ok, wantP, wantV, want)
		}
	}
}

// small tells of a trie whose shape is too great.
func small(t *testing.T, x *trie.Trie) {
	t.Helper()
	if shape, n := len(x.Shape()), x.Len(); shape < n || n == 0 && shape > 0 || n > 0 && shape > 2*n-1 {
		t.Fatalf("of %d prefixes the shape has %d", n, shape)
	}
}

func TestP188Small(t *testing.T) {
	small(t, trie.New())
	r := rand.New(rand.NewSource(188))
	for range 30 {
		x := trie.New()
		for _, p := range world(r) {
			if r.Intn(2) == 0 {
				x = put(t, x, p, 1)
			}
			small(t, x)
		}
		for p := range x.All() {
			x = cut(t, x, p)
			small(t, x)
		}
	}
}

// The greatest shape that there is: all of a number of bits, none of which covers another one.
func TestP188AsGreatAsMayBe(t *testing.T) {
	for _, top := range tops(5) {
		x, n := trie.New(), 0
		for _, p := range tree(top, 5) {
			if p.Bits == top.Bits+5 {
				x = put(t, x, p, n)
				n++
			}
		}
		if shape := len(x.Shape()); n != 32 || shape != 63 {
			t.Errorf("below %v: of %d prefixes the shape has %d", top, n, shape)
		}
	}
}

// Each trie that ever was answers as it did when it was made.
func TestP189ForGood(t *testing.T) {
	r := rand.New(rand.NewSource(1891))
	list := world(r)
	tries, were := []*trie.Trie{trie.New()}, []held{{}}
	for range 400 {
		at, p := r.Intn(len(tries)), list[r.Intn(len(list))]
		x, h := tries[at], were[at]
		if _, ok := h[p]; ok && r.Intn(2) == 0 {
			tries, were = append(tries, cut(t, x, p)), append(were, h.without(p))
		} else {
			v := r.Intn(9)
			tries, were = append(tries, put(t, x, p, v)), append(were, h.with(p, v))
		}
	}
	for i, x := range tries {
		is(t, x, were[i])
		asked(t, x, were[i], list[:40])
	}
}

// Many threads ask one trie, and make others of it, at a time.
func TestP189ByManyThreads(t *testing.T) {
	r := rand.New(rand.NewSource(1892))
	list, h := world(r), held{}
	for i, p := range list {
		if i%2 == 0 {
			h[p] = i
		}
	}
	x := of(t, h.routes(r)...)
	shape, all := h.shape(), h.all()
	var wrong [8]int
	var wait sync.WaitGroup
	for k := range wrong {
		wait.Go(func() {
			u := x
			for i, p := range list {
				if (i+k)%3 == 0 {
					u, _ = u.Put(p, k)
				} else if w, e := u.Cut(p); e == api.OK {
					u = w
				}
				v, ok := x.Get(p)
				if n, there := h[p]; v != n || ok != there {
					wrong[k]++
				}
				if best, n, ok := x.Find(p.Addr); ok && h[best] != n {
					wrong[k]++
				}
			}
			if told, n := gone(x.All(), h); !slices.Equal(told, all) || n > 0 || !slices.Equal(x.Shape(), shape) || !trie.Same(x, x) || trie.Same(x, u) || x.Len() != len(h) {
				wrong[k]++
			}
		})
	}
	wait.Wait()
	if wrong != [8]int{} {
		t.Errorf("wrong answers: %v", wrong)
	}
	is(t, x, h)
}

// A trie that is none is not made one by what is done with it.
func TestP189None(t *testing.T) {
	for i, x := range nones(t) {
		for range 2 {
			if _, e := x.Put(read("::/0"), 1); e != api.ErrNil || x.Len() != 0 || trie.Same(x, x) {
				t.Errorf("none %d: Put %v, Len %d", i, e, x.Len())
			}
		}
	}
}
