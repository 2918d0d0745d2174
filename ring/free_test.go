package ring

import (
	"runtime"
	"sync"
	"sync/atomic"
	"testing"

	"patchbay/api"
	"patchbay/plays"
)

// run is a ring that is used freely; how many Puts and Takes have said true; whether something was wrong: then nobody goes on.
type run struct {
	ring     *Ring
	put, got atomic.Uint64
	wrong    atomic.Bool
}

// fail ends the run in an error.
func (x *run) fail(t *testing.T, text string, about ...any) {
	t.Errorf(text, about...)
	x.wrong.Store(true)
}

// putAll puts in the numbers from a count of puts on: each is its count.
func (x *run) putAll(t *testing.T, g api.Gate, from, to uint64) {
	n := uint64(x.ring.Slots())
	for p := from; p < to && !x.wrong.Load(); {
		before := x.got.Load()
		ok, e := x.ring.Put(g, p)
		behind := x.got.Load()
		if e != api.OK {
			x.fail(t, "Put: %v", e)
		}
		if !ok {
			// p - n were taken then, so no more had been when it began.
			if before+n > p {
				x.fail(t, "no room for the number %d, when %d were taken", p, before)
			}
			runtime.Gosched()
			continue
		}
		// One Take may be under way that is not counted yet.
		if p >= behind+1+n {
			x.fail(t, "room for the number %d, when %d were taken", p, behind)
		}
		p++
		x.put.Store(p)
	}
}

// takeAll takes what putAll puts in.
func (x *run) takeAll(t *testing.T, g api.Gate, from, to uint64) {
	for c := from; c < to && !x.wrong.Load(); {
		before := x.put.Load()
		v, ok, e := x.ring.Take(g)
		if e != api.OK || !ok && v != 0 {
			x.fail(t, "Take: %d, %v, %v", v, ok, e)
		}
		if !ok {
			if before > c {
				x.fail(t, "none behind the number %d, when %d were put", c, before)
			}
			runtime.Gosched()
			continue
		}
		if v != c {
			x.fail(t, "%d in the place of %d", v, c)
		}
		c++
		x.got.Store(c)
	}
}

// look asks for Len till all numbers were taken: it is never more than there is room for.
func (x *run) look(t *testing.T, g api.Gate, all uint64) {
	for x.got.Load() < all && !x.wrong.Load() {
		if n, e := x.ring.Len(g); n < 0 || n > x.ring.Slots() || e != api.OK {
			x.fail(t, "Len: %d, %v", n, e)
		}
		runtime.Gosched()
	}
}

// gatesOfTwo are all ways in which one that puts and one that takes are held up, or not.
func gatesOfTwo() [][2]api.Gate {
	return [][2]api.Gate{{nil, nil}, {nil, plays.Yielding(runtime.Gosched)}, {plays.Yielding(runtime.Gosched), nil}, {plays.Yielding(runtime.Gosched), plays.Yielding(runtime.Gosched)}}
}

func TestP63FreeOneAndOne(t *testing.T) {
	const all = 20000
	for _, n := range []int{1, 2, 8, 64, api.MaxSlots} {
		for _, g := range gatesOfTwo() {
			x := &run{ring: made(t, n)}
			plays.Freely(t, 2, func(k int) {
				if k == 0 {
					x.putAll(t, g[0], 0, all)
				} else {
					x.takeAll(t, g[1], 0, all)
				}
			})
			holds(t, "at the end", x.ring)
		}
	}
}

func TestP63FreeAndWhatIsLeft(t *testing.T) {
	const all = 5000
	for _, n := range []int{1, 4, 256} {
		x := &run{ring: made(t, n)}
		var left []uint64
		for v := range uint64(n) {
			left = append(left, all+v)
		}
		plays.Freely(t, 2, func(k int) {
			if k == 0 {
				x.putAll(t, nil, 0, all+uint64(n))
			} else {
				x.takeAll(t, nil, 0, all)
			}
		})
		is(t, "a full ring", x.ring, nil, ask{doPut, 9}, no())
		holds(t, "at the end", x.ring, left...)
	}
}

func TestP63FreeOneAtATime(t *testing.T) {
	// Several put and several take, but no two Puts and no two Takes are under way at a time.
	const all, part = 20000, 100
	for _, n := range []int{1, 4, 64} {
		x := &run{ring: made(t, n)}
		var putting, taking sync.Mutex
		put, took := uint64(0), uint64(0)
		plays.Freely(t, 6, func(k int) {
			for {
				mutex, next, do := &putting, &put, x.putAll
				if k%2 == 1 {
					mutex, next, do = &taking, &took, x.takeAll
				}
				mutex.Lock()
				from := *next
				if from < all {
					do(t, nil, from, from+part)
					*next += part
				}
				mutex.Unlock()
				if from >= all || x.wrong.Load() {
					return
				}
			}
		})
		holds(t, "at the end", x.ring)
	}
}

func TestP64FreeLens(t *testing.T) {
	const all = 20000
	for _, n := range []int{1, 2, 16} {
		for _, g := range gatesOfTwo() {
			x := &run{ring: made(t, n)}
			plays.Freely(t, 4, func(k int) {
				switch k {
				case 0:
					x.putAll(t, g[0], 0, all)
				case 1:
					x.takeAll(t, g[1], 0, all)
				default:
					x.look(t, g[k-2], all)
				}
			})
			holds(t, "at the end", x.ring)
		}
	}
}

func TestP64FreeLensBesidePutsAlone(t *testing.T) {
	x := &run{ring: made(t, api.MaxSlots)}
	plays.Freely(t, 3, func(k int) {
		if k == 0 {
			x.putAll(t, plays.Yielding(runtime.Gosched), 0, api.MaxSlots)
			return
		}
		for last := 0; last < api.MaxSlots && !x.wrong.Load(); {
			before := int(x.put.Load())
			n, e := x.ring.Len(nil)
			// One Put may be under way that is not counted yet.
			if behind := int(x.put.Load()); e != api.OK || n < before || n > behind+1 || n < last {
				x.fail(t, "Len: %d, %v, from %d to %d were put, behind a Len of %d", n, e, before, behind, last)
			}
			last = n
			runtime.Gosched()
		}
	})
}

// TestP62FreeAnswersAreThoseOfAnOrder: so also where several put and take at a time.
func TestP62FreeAnswersAreThoseOfAnOrder(t *testing.T) {
	for _, x := range []struct {
		words []uint64
		asks  [][]ask
	}{
		{empty(1), [][]ask{puts(5, 6), takes(2)}},
		{empty(2), [][]ask{puts(5), puts(6), lens(1)}},
		{[]uint64{0, 2, 5, 6}, [][]ask{takes(1), takes(1), lens(1)}},
		{[]uint64{0, 1, 5}, [][]ask{puts(6), takes(1), takes(1)}},
	} {
		plays.AsOfAnOrder(t, 2000, func(run, k int) api.Gate { return gatesOfTwo()[run%4][k%2] }, x.asks, func() asked { return asIs(madeOf(t, x.words)) })
	}
}

// TestP65FreeCallsEnd: whatever others do, and however many they are.
func TestP65FreeCallsEnd(t *testing.T) {
	const calls = 20000
	for _, n := range []uint64{1, 4} {
		r := made(t, int(n))
		plays.Freely(t, 8, func(k int) {
			for i := range uint64(calls) {
				for _, a := range []ask{{doPut, i}, {doTake, 0}, {doLen, 0}} {
					got := a.of(r, nil)
					if got.e != api.OK || a.kind == doLen && got.v > n || a.kind == doTake && !got.ok && got.v != 0 {
						t.Errorf("%v: %v", a, got)
					}
				}
			}
		})
	}
}
