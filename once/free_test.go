package once

import (
	"runtime"
	"slices"
	"sync"
	"sync/atomic"
	"testing"
	"time"

	"patchbay/api"
	"patchbay/plays"
)

const (
	manyThreads = 8
	manyTimes   = 400
)

// free runs as many threads at a time, each with its number.
func free(t *testing.T, body func(k int)) {
	t.Helper()
	if e := plays.Free(manyThreads, body); e != api.OK {
		t.Fatalf("Free: %v", e)
	}
}

// yielding is a gate that lets others run, as a thread that goes round else keeps them from it.
func yielding() api.Gate {
	return gate(func(api.Mark) { runtime.Gosched() })
}

// gateOf is the gate of a thread of a free run in which so many of the threads have one.
func gateOf(k, gates int) api.Gate {
	if k < gates {
		return yielding()
	}
	return nil
}

func TestP45FreeOnces(t *testing.T) {
	for _, w := range threeWays() {
		for gates := range manyThreads + 1 {
			for range manyTimes / 8 {
				var calls atomic.Int64
				o := New(func() (int, api.Errno) { calls.Add(1); return w.make() })
				free(t, func(k int) {
					gets(t, w.name, answers(o.Get(gateOf(k, gates))), w.want)
					// Ahead of the first answer, and once.
					if n := calls.Load(); n != 1 || o.Made() != 1 {
						t.Errorf("%s: %d calls, made %d", w.name, n, o.Made())
					}
					gets(t, w.name, answers(o.Get(gateOf(manyThreads-k, gates))), w.want)
				})
			}
		}
	}
}

func TestP45FreeTables(t *testing.T) {
	ways := threeWays()
	for gates := range manyThreads + 1 {
		var calls [api.MaxSlots]atomic.Int64
		x := table(t, api.MaxSlots, func(i int) (int, api.Errno) {
			calls[i].Add(1)
			return ways[i%3].make()
		})
		free(t, func(k int) {
			for n := range api.MaxSlots {
				i := n
				if k%2 == 1 {
					i = api.MaxSlots - 1 - n
				}
				gets(t, ways[i%3].name, answers(x.Get(gateOf(k, gates), i)), ways[i%3].want)
				if n%100 == 0 && !slices.IsSorted(x.Made()) {
					t.Errorf("Made: %v", x.Made())
				}
			}
		})
		for i := range calls {
			if n := calls[i].Load(); n != 1 {
				t.Errorf("%d: %d calls", i, n)
			}
		}
		if len(x.Made()) != api.MaxSlots {
			t.Errorf("Made: %v", x.Made())
		}
	}
}

func TestP45WhatMakeWroteIsSeen(t *testing.T) {
	// Without an atomic or a lock of its own: the answer alone tells that make has ended.
	for gates := range manyThreads + 1 {
		for range manyTimes / 8 {
			wrote := 0
			o := New(func() (*int, api.Errno) {
				wrote = 5
				return &wrote, api.OK
			})
			free(t, func(k int) {
				if v, e := o.Get(gateOf(k, gates)); e != api.OK || *v != 5 {
					t.Errorf("%v, %d", e, *v)
				}
			})
		}
	}
}

// slow is a make that says when it has begun, and then waits till it may go on.
type slow struct {
	begun, goOn chan struct{}
	way         way
}

func newSlow(w way) *slow {
	return &slow{make(chan struct{}), make(chan struct{}), w}
}

func (s *slow) make(int) (int, api.Errno) {
	close(s.begun)
	<-s.goOn
	return s.way.make()
}

// holding is a gate that lets nobody come to a Store, till it may go on.
func holding(goOn chan struct{}) api.Gate {
	return gate(func(m api.Mark) {
		if m.Op == api.OpStore {
			<-goOn
		}
	})
}

// askers lets some ask freely, and answers how many have been answered, and what waits for them all.
func askers(t *testing.T, o object, want answer) (*atomic.Int64, *sync.WaitGroup) {
	var ended atomic.Int64
	var all sync.WaitGroup
	for range manyThreads {
		all.Go(func() {
			gets(t, "free", o.get(nil, 0), want)
			ended.Add(1)
		})
	}
	return &ended, &all
}

func TestP45AFreeGetWaitsForMakeAndNoLonger(t *testing.T) {
	for _, w := range threeWays() {
		for _, kind := range []string{"free", "under a gate", "held up at the Store"} {
			s := newSlow(w)
			for _, o := range []object{newSingle(s.make), newSeveral(1)(s.make)} {
				s.begun, s.goOn = make(chan struct{}), make(chan struct{})
				store := make(chan struct{})
				g := map[string]api.Gate{"under a gate": yielding(), "held up at the Store": holding(store)}[kind]
				var maker sync.WaitGroup
				maker.Go(func() { gets(t, kind, o.get(g, 0), w.want) })
				<-s.begun
				ended, all := askers(t, o, w.want)
				time.Sleep(2 * time.Millisecond)
				if n := ended.Load(); n != 0 || len(o.made()) != 1 {
					t.Errorf("%s, %s: %d have ended ahead of make, made %v", w.name, kind, n, o.made())
				}
				close(s.goOn)
				ends(t, w.name+", "+kind, all.Wait)
				close(store)
				ends(t, w.name+", "+kind+": who makes it", maker.Wait)
				gets(t, kind, o.get(yielding(), 0), w.want)
			}
		}
	}
}

func TestP45UnderAGateItGoesRound(t *testing.T) {
	// As long as somebody else's make is under way; it does not wait for it: here make waits for it.
	for _, w := range threeWays() {
		for _, maker := range []api.Gate{nil, yielding()} {
			s := newSlow(w)
			o := newSingle(s.make)
			var all sync.WaitGroup
			all.Go(func() { gets(t, "who makes it", o.get(maker, 0), w.want) })
			<-s.begun
			loads := 0
			counting := gate(func(m api.Mark) {
				if m != (api.Mark{Op: api.OpLoad, Word: 0}) {
					t.Errorf("tells %v", m)
				}
				if loads++; loads == 100 {
					close(s.goOn)
					all.Wait()
				}
			})
			ends(t, w.name, func() { gets(t, w.name, o.get(counting, 0), w.want) })
			if loads != 100 {
				t.Errorf("%s: %d Loads", w.name, loads)
			}
		}
	}
}

func TestP45WhoLosesDoesNotWait(t *testing.T) {
	// Its Load was ahead of the other one's CAS, its own CAS comes while make is under way.
	for _, maker := range []api.Gate{nil, yielding()} {
		s := newSlow(valued())
		o := newSingle(s.make)
		var all sync.WaitGroup
		var told []api.OpKind
		losing := gate(func(m api.Mark) {
			told = append(told, m.Op)
			switch len(told) {
			case 2:
				all.Go(func() { gets(t, "who makes it", o.get(maker, 0), answer{7, api.OK}) })
				<-s.begun
			case 5:
				close(s.goOn)
				all.Wait()
			}
		})
		ends(t, "who loses", func() { gets(t, "who loses", o.get(losing, 0), answer{7, api.OK}) })
		if want := []api.OpKind{api.OpLoad, api.OpCAS, api.OpLoad, api.OpLoad, api.OpLoad}; !slices.Equal(told, want) {
			t.Errorf("tells %v, not %v", told, want)
		}
	}
}

func TestP43MadeWhileMakeIsUnderWay(t *testing.T) {
	for _, g := range []api.Gate{nil, yielding()} {
		s := newSlow(refusing())
		x := table(t, 5, func(i int) (int, api.Errno) {
			if i == 3 {
				return s.make(i)
			}
			return tens(i)
		})
		var all sync.WaitGroup
		all.Go(func() { x.Get(g, 3) })
		<-s.begun
		madeIs(t, x, 3)
		// What one make holds up is not held up elsewhere.
		ends(t, "another number", func() { gets(t, "another number", answers(x.Get(nil, 1)), answer{10, api.OK}) })
		madeIs(t, x, 1, 3)
		close(s.goOn)
		all.Wait()
		madeIs(t, x, 1, 3)
	}
}

func TestP43MadeOfAOnce(t *testing.T) {
	for _, w := range allWays() {
		for _, g := range []api.Gate{nil, yielding()} {
			s := newSlow(w)
			o := New(func() (int, api.Errno) { return s.make(0) })
			if n := o.Made(); n != 0 {
				t.Errorf("%s: Made: %d ahead of all", w.name, n)
			}
			var all sync.WaitGroup
			all.Go(func() { o.Get(g) })
			<-s.begun
			if n := o.Made(); n != 1 {
				t.Errorf("%s: Made: %d while it is under way", w.name, n)
			}
			close(s.goOn)
			all.Wait()
			for range 2 {
				if n := o.Made(); n != 1 {
					t.Errorf("%s: Made: %d behind it", w.name, n)
				}
				o.Get(g)
			}
		}
	}
}
