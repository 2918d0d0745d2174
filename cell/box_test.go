package cell

import (
	"math"
	"testing"

	"patchbay/api"
	"patchbay/plays"
)

// put puts, and ends in an error, if the answer is another one.
func put[T any](t *testing.T, b *Box[T], v T, number uint64) {
	t.Helper()
	if n, e := b.Put(nil, v); n != number || e != api.OK {
		t.Errorf("Put: %d, %v, not %d", n, e, number)
	}
}

// try tries, and ends in an error, if the answer is another one.
func try[T any](t *testing.T, b *Box[T], number uint64, v T, want bool) {
	t.Helper()
	if ok, e := b.Try(nil, number, v); ok != want || e != api.OK {
		t.Errorf("Try of %d: %v, %v, not %v", number, ok, e, want)
	}
}

func TestP31BoxExamples(t *testing.T) {
	b := NewBox("a")
	boxIs(t, b, "a", 0)
	put(t, b, "b", 1)
	boxIs(t, b, "b", 1)
	try(t, b, 0, "c", false)
	boxIs(t, b, "b", 1)
	try(t, b, 1, "c", true)
	boxIs(t, b, "c", 2)
}

func TestP31NumbersOfABox(t *testing.T) {
	b, other := NewBox(-1), NewBox(-1)
	for i := range 100 {
		n := uint64(2 * i)
		put(t, b, i, n+1)
		boxIs(t, b, i, n+1)
		for _, wrong := range []uint64{0, n, n + 2, n + 3, n + 1 + 1<<32, n + 1 + 1<<63, math.MaxInt64, 1 << 63, top} {
			try(t, b, wrong, 77, false)
		}
		boxIs(t, b, i, n+1)
		try(t, b, n+1, i+1000, true)
		boxIs(t, b, i+1000, n+2)
	}
	boxIs(t, other, -1, 0)
	try(t, other, 0, 5, true)
	try(t, other, 0, 6, false)
	boxIs(t, other, 5, 1)
}

func TestP31OperationsOfABox(t *testing.T) {
	b := NewBox("a")
	tells(t, "Get", func(g api.Gate) { b.Get(g) }, api.OpLoad)
	tells(t, "Put", func(g api.Gate) { b.Put(g, "b") }, api.OpLoad, api.OpCAS)
	tells(t, "Put of the same", func(g api.Gate) { b.Put(g, "b") }, api.OpLoad, api.OpCAS)
	tells(t, "Try of a number that was", func(g api.Gate) { b.Try(g, 1, "c") }, api.OpLoad)
	tells(t, "Try of a number that is not yet", func(g api.Gate) { b.Try(g, 3, "c") }, api.OpLoad)
	tells(t, "Try of the number", func(g api.Gate) { b.Try(g, 2, "b") }, api.OpLoad, api.OpCAS)
	tells(t, "NewBox", func(api.Gate) { NewBox("a") })
	boxIs(t, b, "b", 3)
}

func TestP31BoxesThatAreNone(t *testing.T) {
	whole := NewBox("a")
	whole.Put(nil, "b")
	for name, b := range map[string]*Box[string]{"nil": nil, "a zero value": {}, "new": new(Box[string]), "a copy": plays.Copied(whole)} {
		tells(t, name, func(g api.Gate) {
			if v, n, e := b.Get(g); v != "" || n != 0 || e != api.ErrNil {
				t.Errorf("%s: Get: %q, %d, %v", name, v, n, e)
			}
			if n, e := b.Put(g, "c"); n != 0 || e != api.ErrNil {
				t.Errorf("%s: Put: %d, %v", name, n, e)
			}
			for _, number := range []uint64{0, 1, top} {
				if ok, e := b.Try(g, number, "c"); ok || e != api.ErrNil {
					t.Errorf("%s: Try: %v, %v", name, ok, e)
				}
			}
		})
	}
	boxIs(t, whole, "b", 1)
	var none *Box[*int]
	if v, n, e := none.Get(nil); v != nil || n != 0 || e != api.ErrNil {
		t.Errorf("one of pointers: %v, %d, %v", v, n, e)
	}
}

func TestP32WhatAValuePointsToIsShared(t *testing.T) {
	at, list, table := &[2]int{1, 2}, []int{1, 2, 3}, map[string]int{"a": 1}
	p, s, m := NewBox(at), NewBox(list[:2]), NewBox(table)
	at[0], list[0], table["b"] = 8, 9, 2
	if v, _, _ := p.Get(nil); v != at || v[0] != 8 {
		t.Errorf("a pointer: %v", v)
	}
	if v, _, _ := s.Get(nil); len(v) != 2 || cap(v) != 3 || &v[0] != &list[0] || v[0] != 9 {
		t.Errorf("a slice: %v", v)
	}
	if v, _, _ := m.Get(nil); v["b"] != 2 {
		t.Errorf("a map: %v", v)
	}
	put(t, s, list[1:], 1)
	got, _, _ := s.Get(nil)
	got[1] = 7
	if v, _, _ := s.Get(nil); &v[0] != &list[1] || list[2] != 7 {
		t.Errorf("a slice that was put: %v", v)
	}
	try(t, p, 0, nil, true)
	boxIs(t, p, nil, 1)
}

func TestP32WhatAValueHoldsItselfIsNotShared(t *testing.T) {
	type pair struct {
		list [3]int
		text string
	}
	v := pair{[3]int{1, 2, 3}, "a"}
	b := NewBox(v)
	v.list[0], v.text = 9, "z"
	got, _, _ := b.Get(nil)
	got.list[1] = 9
	boxIs(t, b, pair{[3]int{1, 2, 3}, "a"}, 0)
	put(t, b, got, 1)
	got.list[2] = 9
	boxIs(t, b, pair{[3]int{1, 9, 3}, "a"}, 1)
}

func TestP32ValuesThatCannotBeCompared(t *testing.T) {
	f := NewBox[func() int](nil)
	put(t, f, func() int { return 4 }, 1)
	try(t, f, 1, func() int { return 5 }, true)
	if v, n, e := f.Get(nil); n != 2 || e != api.OK || v() != 5 {
		t.Errorf("a function: %d, %v", n, e)
	}
	a := NewBox[any]([]int{1})
	put[any](t, a, map[int]int{}, 1)
	put[any](t, a, []int{1}, 2)
	try[any](t, a, 2, func() {}, true)
	try(t, a, 2, nil, false)
	put(t, a, nil, 4)
	boxIs(t, a, nil, 4)
	nan := NewBox(math.NaN())
	put(t, nan, math.NaN(), 1)
	try(t, nan, 1, math.NaN(), true)
	if v, n, _ := nan.Get(nil); v == v || n != 2 {
		t.Errorf("no number: %v, %d", v, n)
	}
}

func TestP32ValuesThatAreTheSame(t *testing.T) {
	none := NewBox(struct{}{})
	same := NewBox(7)
	for n := range uint64(20) {
		put(t, none, struct{}{}, 2*n+1)
		put(t, same, 7, 2*n+1)
		try(t, none, 2*n, struct{}{}, false)
		try(t, same, 2*n, 7, false)
		try(t, none, 2*n+1, struct{}{}, true)
		try(t, same, 2*n+1, 7, true)
	}
	boxIs(t, none, struct{}{}, 40)
	boxIs(t, same, 7, 40)
}
