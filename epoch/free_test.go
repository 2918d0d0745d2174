package epoch_test

import (
	"runtime"
	"slices"
	"sync/atomic"
	"testing"

	"patchbay/api"
	"patchbay/epoch"
	"patchbay/plays"
)

// gateOf tells the gate of a thread of a free run: none, or one that lets others run.
var gateOf = plays.Gates(runtime.Gosched)

// run is a domain that is used freely.
type run struct {
	domain *epoch.Domain
	moved  [api.MaxThreads][]uint64 // what the Moves of each thread said that were true
	last   [api.MaxThreads]uint64   // the greatest epoch that each thread was told
	wrong  atomic.Bool              // then nobody goes on
}

// fail ends in an error, once.
func (x *run) fail(t *testing.T, text string, about ...any) {
	if !x.wrong.Swap(true) {
		t.Errorf(text, about...)
	}
}

// ask asks the domain for a thread; no epoch that it is told is below one that it was told.
func (x *run) ask(t *testing.T, g api.Gate, k int, a ask) answer {
	got := a.of(x.domain, g)
	if got.e != api.OK || got.epoch != 0 && got.epoch < x.last[k] {
		x.fail(t, "thread %d: %v: %v behind %d", k, a, got, x.last[k])
	}
	x.last[k] = max(x.last[k], got.epoch)
	if a.call == doMove && got.ok {
		x.moved[k] = append(x.moved[k], got.epoch)
	}
	return got
}

// hold looks at a slot that is held, so many times.
func (x *run) hold(t *testing.T, g api.Gate, k, looks int, pinned uint64) {
	for range looks {
		now := x.ask(t, g, k, now()).epoch
		safe := x.ask(t, g, k, safe(pinned)).ok || x.ask(t, g, k, safe(now)).ok
		if now != pinned && now != pinned+1 || safe {
			x.fail(t, "pinned to %d, the epoch is %d, safe: %v", pinned, now, safe)
		}
	}
}

// ends holds a domain that nobody uses any more, and none of whose slots is pinned, against the words of P9.3 and P9.5.
func (x *run) ends(t *testing.T) {
	t.Helper()
	rises := slices.Sorted(slices.Values(slices.Concat(x.moved[:]...)))
	for i, e := range rises {
		if e != uint64(i)+2 {
			t.Fatalf("of %d Moves that said true the one behind %d others said %d", len(rises), i, e)
		}
	}
	is(t, "at the end", x.domain, nil, now(), told(uint64(len(rises))+1))
	twoLead(t, x.domain)
}

// TestP93FreeHeld: some hold slots, others move the epoch on.
func TestP93FreeHeld(t *testing.T) {
	for i, y := range []struct{ slots, movers, rounds int }{
		{1, 1, 3000}, {1, 2, 3000}, {2, 1, 2000}, {4, 4, 1000}, {7, 1, 600}, {12, 4, 300}, {15, 1, 300}, {8, 8, 500},
	} {
		for round := range 4 {
			x := &run{domain: made(t, y.slots)}
			var ended atomic.Int64
			plays.Freely(t, y.slots+y.movers, func(k int) {
				g := gateOf(i+round, k)
				if k >= y.slots {
					for ended.Load() < int64(y.slots) && !x.wrong.Load() {
						x.ask(t, g, k, move())
						runtime.Gosched()
					}
					return
				}
				defer ended.Add(1)
				for j := 0; j < y.rounds && !x.wrong.Load(); j++ {
					e := x.ask(t, g, k, pin(k)).epoch
					x.hold(t, g, k, 1+j%4, e)
					if j%3 == 0 {
						x.ask(t, g, k, move())
						x.hold(t, g, k, 1, e)
					}
					x.ask(t, g, k, unpin(k))
				}
			})
			x.ends(t)
		}
	}
}

// TestP93FreeSlotsThatAreHandedOn: a slot is one thread's at a time, but who unpins it may be another one than who has pinned it.
func TestP93FreeSlotsThatAreHandedOn(t *testing.T) {
	type heldSlot struct {
		slot  int
		epoch uint64
	}
	for i, slots := range []int{1, 2, 3, api.MaxPins} {
		for round := range 4 {
			x := &run{domain: made(t, slots)}
			idle, held := make(chan int, slots), make(chan heldSlot, slots)
			for slot := range slots {
				idle <- slot
			}
			plays.Freely(t, 8, func(k int) {
				g := gateOf(i+round, k)
				for j := 0; j < 1500 && !x.wrong.Load(); j++ {
					select {
					case slot := <-idle:
						held <- heldSlot{slot, x.ask(t, g, k, pin(slot)).epoch}
					case y := <-held:
						x.hold(t, g, k, 1, y.epoch)
						x.ask(t, g, k, unpin(y.slot))
						idle <- y.slot
					}
					x.ask(t, g, k, move())
				}
			})
			for len(held) > 0 {
				y := <-held
				x.hold(t, nil, 0, 1, y.epoch)
				x.ask(t, nil, 0, unpin(y.slot))
			}
			x.ends(t)
		}
	}
}

// TestP93FreeMovesAlone: the epoch rises by their answers alone.
func TestP93FreeMovesAlone(t *testing.T) {
	for i := range 40 {
		x := &run{domain: made(t, 1+i%api.MaxPins)}
		plays.Freely(t, 8, func(k int) {
			for range 1000 {
				x.ask(t, gateOf(i, k), k, move())
			}
		})
		x.ends(t)
	}
}

// things are what all look for, by numbers: which one lies there, which nobody can hold any more.
type things struct {
	run
	lies  atomic.Int64
	laid  atomic.Int64
	freed []atomic.Bool
}

// away is a thing that was taken away, and the epoch behind that.
type away struct {
	thing int64
	epoch uint64
}

// use holds a slot, and what lies there; it looks at it so many times.
func (x *things) use(t *testing.T, g api.Gate, slot, looks int) {
	x.ask(t, g, slot, pin(slot))
	own := x.lies.Load()
	for range looks {
		if x.freed[own].Load() {
			x.fail(t, "the slot %d is held, and the thing %d that it found is freed", slot, own)
		}
		runtime.Gosched()
	}
	x.ask(t, g, slot, unpin(slot))
}

// swap lays another thing there, and answers the one that was there.
func (x *things) swap(t *testing.T, g api.Gate, k int) away {
	thing := x.lies.Swap(x.laid.Add(1))
	return away{thing, x.ask(t, g, k, now()).epoch}
}

// free frees what is safe, and answers the others.
func (x *things) free(t *testing.T, g api.Gate, k int, kept []away) []away {
	return slices.DeleteFunc(kept, func(y away) bool {
		ok := x.ask(t, g, k, safe(y.epoch)).ok
		if ok && x.freed[y.thing].Swap(true) {
			x.fail(t, "the thing %d is freed twice", y.thing)
		}
		return ok
	})
}

func TestP94FreeTakenAway(t *testing.T) {
	const swaps = 1500
	for i, y := range []struct{ users, swappers int }{{1, 1}, {2, 1}, {1, 3}, {4, 4}, {12, 2}, {7, 1}} {
		for round := range 4 {
			x := &things{run: run{domain: made(t, y.users)}, freed: make([]atomic.Bool, 1+swaps*y.swappers)}
			var kept [api.MaxThreads][]away
			var ended atomic.Int64
			plays.Freely(t, y.users+y.swappers, func(k int) {
				g := gateOf(i+round, k)
				if k < y.users {
					for ended.Load() < int64(y.swappers) && !x.wrong.Load() {
						x.use(t, g, k, 3)
					}
					return
				}
				defer ended.Add(1)
				for j := 0; j < swaps && !x.wrong.Load(); j++ {
					kept[k] = append(kept[k], x.swap(t, g, k))
					x.ask(t, g, k, move())
					kept[k] = x.free(t, g, k, kept[k])
					runtime.Gosched()
				}
			})
			x.ends(t)
			// Nobody holds a slot any more, and two Moves were done.
			left := x.free(t, nil, 0, slices.Concat(kept[:]...))
			if len(left) != 0 && !x.wrong.Load() {
				t.Errorf("%d things are not safe at the end", len(left))
			}
		}
	}
}

// counting is a gate that counts what it is told, and lets others run.
type counting struct{ told int }

func (c *counting) Step(api.Mark) {
	c.told++
	runtime.Gosched()
}

// TestP96FreeOperations: a Pin goes round as often as the epoch rose meanwhile, at most.
func TestP96FreeOperations(t *testing.T) {
	for _, y := range []struct{ slots, movers int }{{1, 1}, {3, 3}, {8, 8}, {15, 1}, {1, 7}} {
		x := &run{domain: made(t, y.slots)}
		plays.Freely(t, y.slots+y.movers, func(k int) {
			for j := 0; j < 1000 && !x.wrong.Load(); j++ {
				a, bound := move(), uint64(y.slots)+2
				if k < y.slots {
					a, bound = []ask{pin(k), unpin(k)}[j%2], 2
				}
				before := x.ask(t, nil, k, now()).epoch
				c := &counting{}
				x.ask(t, c, k, a)
				if a.call == doPin {
					bound = 4 + 2*(x.ask(t, nil, k, now()).epoch-before)
				}
				if uint64(c.told) > bound {
					x.fail(t, "%v had %d operations, more than %d", a, c.told, bound)
				}
			}
		})
		x.ends(t)
	}
}

func TestP93FreeAnswersAreThoseOfAnOrder(t *testing.T) {
	for _, x := range []play{
		{0, at(1, 1), [][]ask{one(pin(0)), moves(1)}},
		{0, at(1, 1), [][]ask{one(pin(0)), moves(2)}},
		{0, at(2, 2, 1), [][]ask{one(unpin(0)), moves(1)}},
		{0, at(1, 1), [][]ask{in(0), moves(1)}},
		{0, at(2, 1), [][]ask{moves(1), moves(1)}},
		{0, at(1, 3), [][]ask{moves(2), moves(1)}},
		{0, at(1, 1), [][]ask{one(safe(0), safe(1), now()), moves(2)}},
		{0, at(1, 1), [][]ask{one(pin(0)), one(pin(0))}},
		{0, at(1, 2, 2), [][]ask{one(unpin(0)), one(unpin(0)), one(now())}},
		{0, at(2, 1), [][]ask{one(pin(0)), one(pin(1))}},
		{0, at(1, 1), [][]ask{one(pin(0)), moves(1), one(now())}},
	} {
		plays.AsOfAnOrder(t, 1000, gateOf, x.asks, func() asked { return asIs(x.start.domain(t)) })
	}
}
