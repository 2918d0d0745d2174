package once

import (
	"math"
	"testing"

	"patchbay/api"
	"patchbay/plays"
)

func TestP41NewOfNil(t *testing.T) {
	if New[int](nil) != nil || New[*int](nil) != nil || New[struct{}](nil) != nil {
		t.Error("New of nil is not nil")
	}
}

func TestP41NewMakesNothing(t *testing.T) {
	calls := 0
	for range 3 {
		o := New(valued().counted(&calls))
		if o == nil || o.Made() != 0 || calls != 0 {
			t.Errorf("New: %v, made %d, %d calls", o, o.Made(), calls)
		}
	}
}

func TestP42Examples(t *testing.T) {
	o := New(giving(7, api.OK))
	if n := o.Made(); n != 0 {
		t.Errorf("Made: %d", n)
	}
	tells(t, "the first Get", func(g api.Gate) { gets(t, "the first Get", answers(o.Get(g)), answer{7, api.OK}) }, at(0, api.OpLoad, api.OpCAS, api.OpStore)...)
	tells(t, "the second Get", func(g api.Gate) { gets(t, "the second Get", answers(o.Get(g)), answer{7, api.OK}) }, at(0, api.OpLoad)...)
	if n := o.Made(); n != 1 {
		t.Errorf("Made: %d", n)
	}
	r, b := New(giving(9, api.ErrArg)), New(panicking("no"))
	for range 2 {
		gets(t, "refused", answers(r.Get(nil)), answer{0, api.ErrArg})
		gets(t, "broken", answers(b.Get(nil)), answer{0, api.ErrBroken})
	}
	if r.Made() != 1 || b.Made() != 1 {
		t.Errorf("Made: %d, %d", r.Made(), b.Made())
	}
}

// asksAgain asks a new object again and again, by turns free and under a gate (the first time free, if first says so), and holds all against the way.
func asksAgain(t *testing.T, w way, word int, first bool, get func(g api.Gate) (int, api.Errno), calls *int) {
	t.Helper()
	for i := range 6 {
		name := w.name + " at " + string(rune('0'+i))
		if free := (i%2 == 0) == first; free {
			gets(t, name+", free", answers(get(nil)), w.want)
		} else if i == 0 {
			tells(t, name, func(g api.Gate) { gets(t, name, answers(get(g)), w.want) }, at(word, api.OpLoad, api.OpCAS, api.OpStore)...)
		} else {
			tells(t, name, func(g api.Gate) { gets(t, name, answers(get(g)), w.want) }, at(word, api.OpLoad)...)
		}
		if *calls != 1 {
			t.Errorf("%s: %d calls of make", name, *calls)
		}
	}
}

func TestP42AllWays(t *testing.T) {
	for _, w := range allWays() {
		for _, first := range []bool{true, false} {
			calls := 0
			o := New(w.counted(&calls))
			asksAgain(t, w, 0, first, o.Get, &calls)
			if o.Made() != 1 {
				t.Errorf("%s: Made: %d", w.name, o.Made())
			}
		}
	}
}

func TestP42TheStateBehindMake(t *testing.T) {
	for i, w := range threeWays() {
		for _, free := range []bool{true, false} {
			o := New(w.make)
			var g api.Gate
			if !free {
				g = gate(func(m api.Mark) {
					if want := map[api.OpKind]uint64{api.OpStore: 1}[m.Op]; o.slot.state.Load() != want {
						t.Errorf("%s: ahead of %v the state is %d", w.name, m, o.slot.state.Load())
					}
				})
			}
			o.Get(g)
			if got := o.slot.state.Load(); got != uint64(2+i) {
				t.Errorf("%s, free %v: the state is %d", w.name, free, got)
			}
		}
	}
}

func TestP42OncesOfOneMakeAreTheirOwn(t *testing.T) {
	calls := 0
	next := func() (int, api.Errno) { calls++; return calls, api.OK }
	a, b := New(next), New(next)
	gets(t, "b", answers(b.Get(nil)), answer{1, api.OK})
	if a.Made() != 0 || b.Made() != 1 {
		t.Errorf("Made: %d, %d", a.Made(), b.Made())
	}
	gets(t, "a", answers(a.Get(nil)), answer{2, api.OK})
	gets(t, "b", answers(b.Get(nil)), answer{1, api.OK})
}

func TestP42OncesThatAreNone(t *testing.T) {
	whole := New(giving(7, api.OK))
	whole.Get(nil)
	for name, o := range map[string]*Once[int]{"nil": nil, "a zero value": {}, "new": new(Once[int]), "a copy": plays.Copied(whole)} {
		tells(t, name, func(g api.Gate) {
			gets(t, name, answers(o.Get(g)), answer{0, api.ErrNil})
			gets(t, name+", free", answers(o.Get(nil)), answer{0, api.ErrNil})
			if n := o.Made(); n != 0 {
				t.Errorf("%s: Made: %d", name, n)
			}
		})
	}
	gets(t, "the whole one", answers(whole.Get(nil)), answer{7, api.OK})
	var none *Once[*int]
	if v, e := none.Get(nil); v != nil || e != api.ErrNil {
		t.Errorf("one of pointers: %v, %v", v, e)
	}
}

func TestP42ACopyOfWhatIsNotMadeYet(t *testing.T) {
	calls := 0
	whole := New(valued().counted(&calls))
	gets(t, "a copy", answers(plays.Copied(whole).Get(nil)), answer{0, api.ErrNil})
	if calls != 0 || whole.Made() != 0 {
		t.Errorf("%d calls, made %d", calls, whole.Made())
	}
	gets(t, "the whole one", answers(whole.Get(nil)), answer{7, api.OK})
}

func TestP42WhatAValuePointsToIsShared(t *testing.T) {
	list, table, number := []int{1, 2, 3}, map[string]int{"a": 1}, 5
	s := New(func() ([]int, api.Errno) { return list[:2], api.OK })
	m := New(func() (map[string]int, api.Errno) { return table, api.OK })
	p := New(func() (*int, api.Errno) { return &number, api.OK })
	s.Get(nil)
	list[1], table["b"] = 9, 2
	for range 2 {
		if v, e := s.Get(nil); len(v) != 2 || cap(v) != 3 || &v[0] != &list[0] || v[1] != 9 || e != api.OK {
			t.Errorf("a list: %v, %v", v, e)
		}
		if v, e := m.Get(nil); v["b"] != 2 || e != api.OK {
			t.Errorf("a map: %v, %v", v, e)
		}
		if v, e := p.Get(nil); v != &number || e != api.OK {
			t.Errorf("a pointer: %v, %v", v, e)
		}
	}
}

func TestP42WhatAValueHoldsItselfIsNotShared(t *testing.T) {
	o := New(func() ([3]int, api.Errno) { return [3]int{1, 2, 3}, api.OK })
	v, _ := o.Get(nil)
	v[0] = 9
	if got, e := o.Get(nil); got != [3]int{1, 2, 3} || e != api.OK {
		t.Errorf("%v, %v", got, e)
	}
}

func TestP42ValuesOfAllKinds(t *testing.T) {
	f := New(func() (func() int, api.Errno) { return func() int { return 4 }, api.OK })
	a := New(func() (any, api.Errno) { return []int{1}, api.OK })
	n := New(func() (any, api.Errno) { return nil, api.OK })
	none := New(func() (struct{}, api.Errno) { return struct{}{}, api.ErrLong })
	nan := New(func() (float64, api.Errno) { return math.NaN(), api.OK })
	refused := New(func() (any, api.Errno) { return "no", api.ErrLong })
	for range 2 {
		if v, e := f.Get(nil); e != api.OK || v() != 4 {
			t.Errorf("a function: %v", e)
		}
		if v, e := a.Get(nil); e != api.OK || v.([]int)[0] != 1 {
			t.Errorf("a list: %v, %v", v, e)
		}
		if v, e := n.Get(nil); e != api.OK || v != nil {
			t.Errorf("nil: %v, %v", v, e)
		}
		if _, e := none.Get(nil); e != api.ErrLong {
			t.Errorf("nothing: %v", e)
		}
		if v, e := nan.Get(nil); e != api.OK || v == v {
			t.Errorf("no number: %v, %v", v, e)
		}
		if v, e := refused.Get(nil); e != api.ErrLong || v != nil {
			t.Errorf("a refusal: %v, %v", v, e)
		}
	}
}
