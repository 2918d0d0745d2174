package queue

import (
	"runtime"
	"slices"
	"sync/atomic"
	"testing"

	"patchbay/api"
	"patchbay/plays"
)

// gateOf tells the gate of a thread of a free run: none, or one that lets others run.
var gateOf = plays.Gates(runtime.Gosched)

// run is a queue that is used freely: some threads put values in, the others take them out.
type run struct {
	queue  *Queue
	each   uint64 // so many values each of those that put in has
	one    bool   // one alone puts in, and one alone takes
	put    atomic.Uint64
	got    atomic.Uint64
	ended  atomic.Int64 // of those that put in
	failed atomic.Bool  // then nobody goes on
}

// fail ends the run in an error.
func (x *run) fail(t *testing.T, text string, about ...any) {
	t.Errorf(text, about...)
	x.failed.Store(true)
}

// value is the i-th one of a thread's.
func value(k int, i uint64) uint64 { return uint64(k)<<32 | i }

// putAll puts in all values of a thread, in their order.
func (x *run) putAll(t *testing.T, k int, g api.Gate) {
	defer x.ended.Add(1)
	for i := uint64(0); i < x.each && !x.failed.Load(); {
		got := x.got.Load()
		ok, e := x.queue.Put(g, value(k, i))
		if e != api.OK {
			x.fail(t, "Put: %v", e)
		}
		if ok {
			i++
			x.put.Add(1)
			continue
		}
		// Of one alone as many were taken as it was told, so that there was room.
		if x.one && got+uint64(x.queue.Slots()) > i {
			x.fail(t, "no room for the value %d, when %d were taken", i, got)
		}
		runtime.Gosched()
	}
}

// takeAll takes values till those that put in, so many, have ended and nothing is left; it drains, now and then. It answers what it took.
func (x *run) takeAll(t *testing.T, putters int64, g api.Gate) []uint64 {
	var all []uint64
	for round := 0; !x.failed.Load(); round++ {
		ended, put := x.ended.Load() == putters, x.put.Load()
		a := ask{doTake, 0}
		if round%8 == 7 {
			a.kind = doDrain
		}
		b := a.of(x.queue, g)
		if len(b.took) > x.queue.Slots() || b.e != api.OK || a.kind == doTake && b.ok != (len(b.took) == 1) {
			x.fail(t, "%v: %v", a, b)
		}
		all = append(all, b.took...)
		x.got.Add(uint64(len(b.took)))
		if len(b.took) > 0 {
			continue
		}
		if x.one && uint64(len(all)) < put {
			x.fail(t, "none behind %d values, when %d were put in", len(all), put)
		}
		if ended {
			break
		}
		runtime.Gosched()
	}
	return all
}

// inOrder ends in an error, unless one thread took, or one Drain tells, each thread's values in their order.
func inOrder(t *testing.T, values []uint64) {
	t.Helper()
	next := map[uint64]uint64{}
	for _, v := range values {
		if v&(1<<32-1) < next[v>>32] {
			t.Errorf("the value %d of the thread %d comes behind that ahead of %d", v&(1<<32-1), v>>32, next[v>>32])
			return
		}
		next[v>>32] = v&(1<<32-1) + 1
	}
}

// allOf ends in an error, unless these are all values of so many threads, each once.
func (x *run) allOf(t *testing.T, threads int, lists ...[]uint64) {
	t.Helper()
	var want []uint64
	for k := range threads {
		want = append(want, from(value(k, 0), int(x.each))...)
	}
	got := slices.Sorted(slices.Values(slices.Concat(lists...)))
	if !slices.Equal(got, want) {
		t.Errorf("%d values come out, of %d; of %d different ones", len(got), len(want), len(slices.Compact(got)))
	}
}

func TestP75FreeManyAndMany(t *testing.T) {
	for i, x := range []struct{ n, putters, takers int }{
		{2, 1, 1}, {8, 1, 1}, {2, 2, 2}, {4, 4, 4}, {64, 4, 4}, {2, 8, 1}, {16, 8, 1}, {2, 1, 8}, {16, 1, 8}, {8, 7, 7}, {api.MaxSlots, 3, 5},
	} {
		for round := range 4 {
			r := &run{queue: made(t, x.n), each: 8000 / uint64(x.putters), one: x.putters+x.takers == 2}
			lists := make([][]uint64, x.takers)
			plays.Freely(t, x.putters+x.takers, func(k int) {
				if g := gateOf(round+i, k); k < x.putters {
					r.putAll(t, k, g)
				} else {
					lists[k-x.putters] = r.takeAll(t, int64(x.putters), g)
				}
			})
			if r.failed.Load() {
				return
			}
			for _, list := range lists {
				inOrder(t, list)
			}
			r.allOf(t, x.putters, lists...)
			holds(t, "at the end", r.queue)
		}
	}
}

func TestP75FreePutsAlone(t *testing.T) {
	for i := range 400 {
		n := sizes()[i%6]
		q := made(t, n)
		var said [8][]bool
		plays.Freely(t, len(said), func(k int) {
			for j := range uint64(n) {
				ok, _ := q.Put(gateOf(i, k), value(k, j))
				said[k] = append(said[k], ok)
			}
		})
		left, _ := q.Drain(nil)
		inOrder(t, left)
		var want []uint64
		for k, list := range said {
			for j, ok := range list {
				if ok {
					want = append(want, value(k, uint64(j)))
				}
			}
		}
		// Nobody takes: all have room, but those for whom it is full for good.
		if got := slices.Sorted(slices.Values(left)); !slices.Equal(got, want) || len(want) != n {
			t.Fatalf("of %d slots: %x is there, %x was put in", n, got, want)
		}
		holds(t, "at the end", q)
	}
}

func TestP75FreeTakesAlone(t *testing.T) {
	for i := range 400 {
		n := sizes()[i%6]
		q := madeOf(t, standing(n, uint64(i), from(0, n)...))
		var took [8][]uint64
		plays.Freely(t, len(took), func(k int) {
			for range n {
				took[k] = append(took[k], ask{kind(1 + (i+k)%2), 0}.of(q, gateOf(i, k)).took...)
			}
		})
		for _, list := range took {
			inOrder(t, list)
		}
		if got := slices.Sorted(slices.Values(slices.Concat(took[:]...))); !slices.Equal(got, from(0, n)) {
			t.Fatalf("of %d slots: %v", n, got)
		}
		holds(t, "at the end", q)
	}
}

// TestP75FreeWhatIsLeft: all do all; what was put in and not taken is still there.
func TestP75FreeWhatIsLeft(t *testing.T) {
	for i, n := range slices.Repeat(sizes()[:6], 3) {
		q := made(t, n)
		var in, out [8][]uint64
		plays.Freely(t, len(in), func(k int) {
			g := gateOf(i, k)
			for j := range uint64(4000) {
				if ok, _ := q.Put(g, value(k, j)); ok {
					in[k] = append(in[k], value(k, j))
				}
				if j%3 != 0 {
					out[k] = append(out[k], ask{doTake, 0}.of(q, g).took...)
				}
			}
		})
		left, _ := q.Drain(nil)
		for _, list := range append(out[:], left) {
			inOrder(t, list)
		}
		got := slices.Sorted(slices.Values(append(slices.Concat(out[:]...), left...)))
		if want := slices.Concat(in[:]...); !slices.Equal(got, want) {
			t.Errorf("of %d slots: %d were put in, %d come out", n, len(want), len(got))
		}
		holds(t, "at the end", q)
	}
}

func TestP72FreeAnswersAreThoseOfAnOrder(t *testing.T) {
	for _, x := range []struct {
		words []uint64
		asks  [][]ask
	}{
		{standing(2, 0), [][]ask{puts(5), puts(6)}},
		{standing(2, 0, 4), [][]ask{puts(5), puts(6)}},
		{standing(2, 0), [][]ask{puts(5), takes(1), takes(1)}},
		{standing(2, 1, 4), [][]ask{puts(5), takes(2)}},
		{standing(2, 3, 4), [][]ask{takes(1), takes(1)}},
		{standing(2, 0, 3, 4), [][]ask{takes(1), puts(5), puts(6)}},
		{standing(2, 0), [][]ask{puts(5, 6), takes(2)}},
		{standing(2, top, 3, 4), [][]ask{drains(1), puts(5)}},
	} {
		plays.AsOfAnOrder(t, 2000, gateOf, x.asks, func() asked { return asIs(madeOf(t, x.words)) })
	}
}

// TestP76FreeCallsEnd: whatever others do, and however many they are.
func TestP76FreeCallsEnd(t *testing.T) {
	const calls = 10000
	for i, n := range []int{2, 4, 2, 4} {
		q := made(t, n)
		plays.Freely(t, 8, func(k int) {
			for j := range uint64(calls) {
				for _, a := range []ask{{doPut, j + 1}, {doTake, 0}, {doDrain, 0}} {
					got := a.of(q, gateOf(i, k))
					if got.e != api.OK || len(got.took) > n || slices.Contains(got.took, 0) || a.kind == doTake && got.ok != (len(got.took) == 1) {
						t.Errorf("%v: %v", a, got)
					}
				}
			}
		})
	}
}
