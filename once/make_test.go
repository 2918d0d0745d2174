package once

import (
	"bytes"
	"runtime"
	"slices"
	"sync"
	"testing"

	"patchbay/api"
	"patchbay/plays"
	"patchbay/turn"
)

// me answers which goroutine this is.
func me() string {
	b := make([]byte, 64)
	return string(bytes.Fields(b[:runtime.Stack(b, false)])[1])
}

func TestP44MakeIsDoneByTheThreadThatCallsIt(t *testing.T) {
	var by string
	make := func(int) (int, api.Errno) { by = me(); return 7, api.OK }
	for _, free := range []bool{true, false} {
		for _, o := range []object{newSingle(make), newSeveral(1)(make)} {
			var all sync.WaitGroup
			all.Go(func() {
				var g api.Gate
				if !free {
					g = turn.NewNotes()
				}
				o.get(g, 0)
				if by != me() {
					t.Errorf("free %v: asked by %s, made by %s", free, me(), by)
				}
			})
			all.Wait()
		}
	}
}

func TestP44MakeIsCalledBetweenCASAndStore(t *testing.T) {
	for _, w := range threeWays() {
		var told []string
		make := func(int) (int, api.Errno) {
			told = append(told, "make")
			return w.make()
		}
		noting := gate(func(m api.Mark) {
			told = append(told, map[api.OpKind]string{api.OpLoad: "load", api.OpCAS: "cas", api.OpStore: "store"}[m.Op])
		})
		for _, o := range []object{newSingle(make), newSeveral(2)(make)} {
			told = nil
			gets(t, w.name, o.get(noting, 0), w.want)
			gets(t, w.name, o.get(noting, 0), w.want)
			if want := []string{"load", "cas", "make", "store", "load"}; !slices.Equal(told, want) {
				t.Errorf("%s: %v, not %v", w.name, told, want)
			}
		}
	}
}

func TestP44MakeMayAskOthersFreely(t *testing.T) {
	calls := 0
	first := New(valued().counted(&calls))
	second := New(func() (int, api.Errno) {
		v, e := first.Get(nil)
		return v + 1, e
	})
	tells(t, "the second one", func(g api.Gate) { gets(t, "the second one", answers(second.Get(g)), answer{8, api.OK}) }, at(0, api.OpLoad, api.OpCAS, api.OpStore)...)
	if calls != 1 || first.Made() != 1 {
		t.Errorf("%d calls, made %d", calls, first.Made())
	}
	gets(t, "the first one", answers(first.Get(nil)), answer{7, api.OK})
}

// fibonacci is a table whose make asks it for lesser numbers.
func fibonacci(n int, calls []int) *Table[int] {
	var x *Table[int]
	x, _ = NewTable(n, func(i int) (int, api.Errno) {
		calls[i]++
		if i < 2 {
			return i, api.OK
		}
		a, _ := x.Get(nil, i-1)
		b, _ := x.Get(nil, i-2)
		return a + b, api.OK
	})
	return x
}

func TestP44MakeMayAskForOtherNumbers(t *testing.T) {
	for _, g := range []api.Gate{nil, turn.NewNotes()} {
		calls := make([]int, 50)
		x := fibonacci(50, calls)
		gets(t, "the last but one", answers(x.Get(g, 48)), answer{4807526976, api.OK})
		if slices.Max(calls) != 1 || len(x.Made()) != 49 {
			t.Errorf("calls %v, made %v", calls, x.Made())
		}
		if n, ok := g.(*turn.Notes); ok && !slices.Equal(n.Marks(), at(48, api.OpLoad, api.OpCAS, api.OpStore)) {
			t.Errorf("tells %v", n.Marks())
		}
	}
}

func TestP44WhatMakePanicsWithEndsThere(t *testing.T) {
	for _, w := range allWays() {
		for _, g := range []api.Gate{nil, turn.NewNotes()} {
			func() {
				defer func() {
					if p := recover(); p != nil {
						t.Errorf("%s: Get panics with %v", w.name, p)
					}
				}()
				New(w.make).Get(g)
			}()
		}
	}
}

// leaving is a make that ends its thread, without a panic.
func leaving(int) (int, api.Errno) {
	runtime.Goexit()
	return 7, api.OK
}

func TestP44AMakeThatEndsItsThread(t *testing.T) {
	broken := answer{0, api.ErrBroken}
	for _, free := range []bool{true, false} {
		for _, o := range []object{newSingle(leaving), newSeveral(1)(leaving)} {
			notes := turn.NewNotes()
			ends(t, "make", func() {
				var all sync.WaitGroup
				all.Go(func() {
					if free {
						o.get(nil, 0)
					} else {
						o.get(notes, 0)
					}
					t.Errorf("free %v: Get has ended", free)
				})
				all.Wait()
			})
			if want := at(0, api.OpLoad, api.OpCAS, api.OpStore); !free && !slices.Equal(notes.Marks(), want) {
				t.Errorf("tells %v, not %v", notes.Marks(), want)
			}
			ends(t, "Get", func() {
				gets(t, "free", o.get(nil, 0), broken)
				gets(t, "under a gate", o.get(turn.NewNotes(), 0), broken)
			})
			if len(o.made()) != 1 {
				t.Errorf("made %v", o.made())
			}
		}
	}
}

func TestP44AMakeThatEndsItsThreadInAPlay(t *testing.T) {
	o := newSingle(leaving)
	p, e := turn.Play([]int{0, 0, 1, 0}, func(g api.Gate) { o.get(g, 0) }, func(g api.Gate) { gets(t, "the other one", o.get(g, 0), answer{0, api.ErrBroken}) })
	want := plays.Trace([]int{0, 0, 1, 0, 1}, at(0, api.OpLoad, api.OpCAS, api.OpLoad, api.OpStore, api.OpLoad)...)
	if e != api.OK || !slices.Equal(p.Trace, want) || len(p.Cut) != 0 {
		t.Errorf("%v, %v, cut %v, not %v", e, p.Trace, p.Cut, want)
	}
}
