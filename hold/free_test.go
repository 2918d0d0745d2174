package hold_test

import (
	"runtime"
	"slices"
	"sync/atomic"
	"testing"

	"patchbay/api"
	"patchbay/hold"
	"patchbay/plays"
)

// gateOf tells the gate of a thread of a free run: none, or one that lets others run.
var gateOf = plays.Gates(runtime.Gosched)

// thing is a value that is published: whose it is, which one of these. It is whole, if both say the same of it.
type thing struct {
	thread, count int
	sum           int
}

// notes are what a thread was told.
type notes struct {
	last  uint64           // the greatest version
	shown map[uint64]thing // what it was shown, by the versions
	put   map[uint64]thing // what it has published
	freed []uint64         // what its Frees have freed
}

// run is a hold that is used freely, by gates that hang on its number.
type run struct {
	t      *testing.T
	number int
	hold   *hold.Hold[thing]
	by     [api.MaxThreads]notes
	freed  []atomic.Bool // by the versions
	wrong  atomic.Bool   // then nobody goes on
}

// begin answers a hold of so many slots, on which up to so many values will be published.
func begin(t *testing.T, number, slots, values int) *run {
	x := &run{t: t, number: number, hold: made(t, thing{}, slots), freed: make([]atomic.Bool, values+2)}
	for k := range x.by {
		x.by[k].shown, x.by[k].put = map[uint64]thing{}, map[uint64]thing{}
	}
	return x
}

// fail ends in an error, once.
func (x *run) fail(text string, about ...any) {
	if !x.wrong.Swap(true) {
		x.t.Errorf(text, about...)
	}
}

// freely runs so many threads at a time.
func (x *run) freely(threads int, body func(k int, g api.Gate)) {
	x.t.Helper()
	if e := plays.Free(threads, func(k int) { body(k, gateOf(x.number, k)) }); e != api.OK {
		x.t.Fatalf("Free: %v", e)
	}
}

// sees notes what a thread is shown; no version is below one that it was told.
func (x *run) sees(k int, v thing, n uint64, e api.Errno) {
	me := &x.by[k]
	was, ok := me.shown[n]
	if e != api.OK || n < me.last || n < 1 || v.sum != v.thread+v.count || ok && v != was {
		x.fail("thread %d: %v %d, %v behind %d, %v", k, v, n, e, me.last, was)
	}
	me.last, me.shown[n] = max(me.last, n), v
}

// now asks what is published.
func (x *run) now(g api.Gate, k int) (thing, uint64) {
	v, n, e := x.hold.Now(g)
	x.sees(k, v, n, e)
	return v, n
}

// enter enters by a slot.
func (x *run) enter(g api.Gate, k, slot int) (thing, uint64) {
	v, n, e := x.hold.Enter(g, slot)
	x.sees(k, v, n, e)
	return v, n
}

// holds looks at what somebody who is in was answered, so many times.
func (x *run) holds(g api.Gate, k, looks int, v thing, n uint64) {
	for i := range looks {
		if x.freed[n].Load() {
			x.fail("thread %d: somebody is in who was answered %d, and it is freed", k, n)
		}
		if i%2 == 0 {
			x.now(g, k)
		} else if was, ok := x.hold.Old(n); ok && was != v {
			x.fail("Old(%d): %v, not %v", n, was, v)
		}
		runtime.Gosched()
	}
}

// leave leaves a slot.
func (x *run) leave(g api.Gate, slot int) {
	if e := x.hold.Leave(g, slot); e != api.OK {
		x.fail("Leave(%d): %v", slot, e)
	}
}

// next answers a value that no other one is like.
func (x *run) next(k int) thing {
	count := len(x.by[k].put)
	return thing{k + 1, count, k + 1 + count}
}

// puts notes that a thread has published a value.
func (x *run) puts(k int, v thing, n uint64) {
	me := &x.by[k]
	if n <= me.last {
		x.fail("thread %d: %v is %d, behind %d", k, v, n, me.last)
	}
	me.last, me.put[n] = n, v
}

// put publishes a value.
func (x *run) put(g api.Gate, k int) {
	v := x.next(k)
	n, e := x.hold.Put(g, v)
	if e != api.OK {
		x.fail("Put: %v", e)
	}
	x.puts(k, v, n)
}

// try publishes a value in place of what is published now, if that is.
func (x *run) try(g api.Gate, k int) {
	v := x.next(k)
	_, n := x.now(g, k)
	next, ok, e := x.hold.Try(g, n, v)
	if e != api.OK || ok && next != n+1 || !ok && next != 0 {
		x.fail("Try(%d): %d, %v, %v", n, next, ok, e)
	}
	if ok {
		x.puts(k, v, next)
	}
}

// free frees.
func (x *run) free(g api.Gate, k int) {
	list, e := x.hold.Free(g)
	_, now := x.now(nil, k)
	for i, n := range list {
		if n >= now || i > 0 && list[i-1] >= n || x.freed[n].Swap(true) {
			x.fail("%v are freed, when %d is published; one of them for the second time, or not rising", list, now)
			return
		}
		if _, ok := x.hold.Old(n); ok {
			x.fail("Old(%d): it is freed", n)
		}
	}
	x.by[k].freed = append(x.by[k].freed, list...)
	kept := x.hold.Kept()
	_, now = x.now(nil, k)
	if e != api.OK || !slices.IsSorted(kept) || len(kept) > 0 && kept[len(kept)-1] >= now || slices.ContainsFunc(list, func(n uint64) bool { return slices.Contains(kept, n) }) {
		x.fail("%v are freed, %v; %v are kept, when %d is published", list, e, kept, now)
	}
}

// ends holds a hold that nobody uses any more against the words of P10.2, P10.6 and P10.7.
func (x *run) ends(slots int) {
	t := x.t
	t.Helper()
	if x.wrong.Load() {
		return
	}
	for slot := range slots {
		if e := x.hold.Leave(nil, slot); e != api.ErrPinned {
			t.Errorf("somebody is in by the slot %d: %v", slot, e)
		}
	}
	v, now := x.now(nil, 0)
	all := map[uint64]thing{1: {}}
	for k := range x.by {
		for n, v := range x.by[k].put {
			if _, ok := all[n]; ok || n > now {
				t.Errorf("%d is told a second time, or is above %d", n, now)
			}
			all[n] = v
		}
	}
	if uint64(len(all)) != now || all[now] != v {
		t.Errorf("%v %d is published, and there were %d versions", v, now, len(all))
	}
	for k := range x.by {
		for n, v := range x.by[k].shown {
			if v != all[n] {
				t.Errorf("%v was shown as %d, not %v", v, n, all[n])
			}
		}
	}
	for range 3 {
		x.free(nil, 0)
	}
	told := 0
	for k := range x.by {
		told += len(x.by[k].freed)
	}
	for n := range now {
		if n > 0 && !x.freed[n].Load() {
			t.Errorf("%d is not freed, %d is published", n, now)
		}
	}
	if kept := x.hold.Kept(); len(kept) != 0 || uint64(told) != now-1 {
		t.Errorf("%d of %d are freed, %v are kept", told, now-1, kept)
	}
	if was, ok := x.hold.Old(now); !ok || was != v {
		t.Errorf("Old(%d): %v, %v, not %v", now, was, ok, v)
	}
}

// TestP105FreeHeld: some are in, others publish and free.
func TestP105FreeHeld(t *testing.T) {
	const swaps = 1200
	for i, y := range []struct{ users, swappers, freers int }{
		{1, 1, 0}, {1, 1, 1}, {2, 1, 1}, {1, 3, 2}, {4, 4, 4}, {12, 2, 2}, {7, 1, 1}, {15, 1, 0}, {3, 2, 8},
	} {
		for round := range 4 {
			x := begin(t, i+round, y.users, swaps*y.swappers)
			var ended atomic.Int64
			goesOn := func() bool { return ended.Load() < int64(y.swappers) && !x.wrong.Load() }
			x.freely(y.users+y.swappers+y.freers, func(k int, g api.Gate) {
				switch {
				case k < y.users:
					for j := 0; goesOn(); j++ {
						v, n := x.enter(g, k, k)
						x.holds(g, k, 1+j%5, v, n)
						x.leave(g, k)
					}
				case k < y.users+y.swappers:
					defer ended.Add(1)
					for j := 0; j < swaps && !x.wrong.Load(); j++ {
						if j%3 == 0 {
							x.try(g, k)
						} else {
							x.put(g, k)
						}
						if y.freers == 0 || j%7 == 0 {
							x.free(g, k)
						}
						runtime.Gosched()
					}
				default:
					for goesOn() {
						x.free(g, k)
						runtime.Gosched()
					}
				}
			})
			x.ends(y.users)
		}
	}
}

// TestP105FreeSlotsThatAreHandedOn: a slot is one thread's at a time, but who leaves it may be another one than who has entered.
func TestP105FreeSlotsThatAreHandedOn(t *testing.T) {
	type inBy struct {
		slot    int
		value   thing
		version uint64
	}
	const rounds = 1200
	for i, slots := range []int{1, 2, 3, api.MaxPins} {
		for round := range 4 {
			x := begin(t, i+round, slots, 8*rounds)
			idle, in := make(chan int, slots), make(chan inBy, slots)
			for slot := range slots {
				idle <- slot
			}
			x.freely(8, func(k int, g api.Gate) {
				for j := 0; j < rounds && !x.wrong.Load(); j++ {
					select {
					case slot := <-idle:
						v, n := x.enter(g, k, slot)
						in <- inBy{slot, v, n}
					case y := <-in:
						x.holds(g, k, 2, y.value, y.version)
						x.leave(g, y.slot)
						idle <- y.slot
					}
					if j%2 == 0 {
						x.put(g, k)
					}
					x.free(g, k)
				}
			})
			for len(in) > 0 {
				y := <-in
				x.holds(nil, 0, 2, y.value, y.version)
				x.leave(nil, y.slot)
			}
			x.ends(slots)
		}
	}
}

// TestP106FreeFrees: each version is told by one alone.
func TestP106FreeFrees(t *testing.T) {
	const values = 400
	for i := range 90 {
		x := begin(t, i, 1, values)
		for range values {
			x.put(nil, 0)
			if i%3 == 0 {
				x.free(nil, 0)
			}
		}
		x.freely(8, func(k int, g api.Gate) {
			for j := 0; j < 20 && !x.wrong.Load(); j++ {
				x.free(g, k)
			}
		})
		if kept := x.hold.Kept(); len(kept) != 0 && !x.wrong.Load() {
			t.Errorf("behind 160 Frees %d are kept", len(kept))
		}
		x.ends(1)
	}
}

// TestP107FreeVersions: all new versions are unlike, and no Now falls.
func TestP107FreeVersions(t *testing.T) {
	const values = 400
	for i := range 60 {
		threads := 2 + i%7
		x := begin(t, i, 1, values*threads)
		x.freely(threads, func(k int, g api.Gate) {
			for j := 0; j < values && !x.wrong.Load(); j++ {
				if (i+j+k)%3 == 0 {
					x.try(g, k)
				} else {
					x.put(g, k)
				}
				x.now(g, k)
			}
		})
		x.ends(1)
	}
}

// TestP108FreeTrys: of those of one version one at most publishes.
func TestP108FreeTrys(t *testing.T) {
	const tries = 4000
	for i := range 24 {
		threads := 2 + i%7
		x := begin(t, i, 1, tries)
		var won [tries]atomic.Int64
		x.freely(threads, func(k int, g api.Gate) {
			// Whoever did it: behind a Try of a version a later one is published.
			for n := uint64(1); n < tries && !x.wrong.Load(); n++ {
				v := x.next(k)
				next, ok, e := x.hold.Try(g, n, v)
				if e != api.OK || ok != (next != 0) || ok && next != n+1 {
					x.fail("Try(%d): %d, %v, %v", n, next, ok, e)
				}
				if ok {
					won[n].Add(1)
					x.puts(k, v, next)
				}
			}
		})
		for n := 1; n < tries && !x.wrong.Load(); n++ {
			if got := won[n].Load(); got != 1 {
				t.Fatalf("%d Trys of %d said true", got, n)
			}
		}
		x.ends(1)
	}
}

// TestP107FreeAnswersAreThoseOfAnOrder: of calls that share words alone.
func TestP107FreeAnswersAreThoseOfAnOrder(t *testing.T) {
	for _, x := range []play{
		{0, from(1), [][]ask{one(put("b")), one(put("c"))}},
		{0, from(1), [][]ask{one(put("b"), now()), one(put("c"), put("d"))}},
		{0, from(1), [][]ask{one(try(1, "b")), one(put("c"))}},
		{0, from(1), [][]ask{one(try(1, "b"), now()), one(try(1, "c"), now())}},
		{0, from(1), [][]ask{one(try(1, "b")), one(try(1, "c")), one(try(2, "d"))}},
		{0, from(2, put("b")), [][]ask{one(enter(1)), one(put("c"))}},
		{0, from(1), [][]ask{in(0), one(put("c"))}},
		{0, from(1), [][]ask{one(enter(0)), one(try(1, "b"), try(2, "c"))}},
		{0, from(1), [][]ask{one(now(), now(), now()), one(put("b"), put("c"))}},
		{0, from(1, enter(0)), [][]ask{one(leave(0)), one(put("b")), one(now())}},
	} {
		plays.AsOfAnOrder(t, 500, gateOf, x.asks, func() asked { return asIs(x.start.hold(t), x.start.n) })
	}
}
