package meter_test

import (
	"runtime"
	"slices"
	"sync/atomic"
	"testing"

	"patchbay/api"
	"patchbay/meter"
	"patchbay/plays"
	"patchbay/turn"
)

// gateOf tells the gate of a thread of a free run: none, or one that lets others run.
var gateOf = plays.Gates(runtime.Gosched)

// run is a meter that is used freely.
type run struct {
	t     *testing.T
	meter *meter.Meter
	let   [api.MaxThreads][]ask // what each thread was let through
	wrong atomic.Bool           // then nobody goes on
}

// fail ends in an error, once.
func (x *run) fail(text string, about ...any) {
	if !x.wrong.Swap(true) {
		x.t.Errorf(text, about...)
	}
}

// take takes, notes what is let through, and answers whether it was.
func (x *run) take(g api.Gate, k int, a ask) bool {
	got := a.of(x.meter, g)
	if got.e != api.OK {
		x.fail("thread %d: %v: %v", k, a, got)
	}
	if got.let {
		x.let[k] = append(x.let[k], a)
	}
	return got.let
}

// rises holds the state against an earlier one, and answers it.
func (x *run) rises(g api.Gate, last uint64) uint64 {
	s := state().of(x.meter, g)
	if s.e != api.OK || s.v < last {
		x.fail("the state is %v, behind %d", s, last)
	}
	return s.v
}

// ends holds what was let through against the words of P13.3.
func (x *run) ends() []ask {
	x.t.Helper()
	all := slices.Concat(x.let[:]...)
	neverMore(x.t, "a free run", x.meter.Bucket(), all...)
	return all
}

// TestP133FreeTakes: at ticks that go on, and back again, other ones for each thread.
func TestP133FreeTakes(t *testing.T) {
	for i, b := range slices.Repeat(buckets(), 4) {
		threads := 2 + i%15
		each := api.MaxRecord / threads
		x := &run{t: t, meter: made(t, b)}
		flows := b.Den/b.Num + 1 // ticks in which a token flows in, about
		plays.Freely(t, threads, func(k int) {
			g, last := gateOf(i, k), uint64(0)
			for j := 0; j < each && !x.wrong.Load(); j++ {
				now := uint64(j+k) * flows
				if j%7 == k%7 {
					now -= min(now, uint64(j%50)*flows)
				}
				x.take(g, k, take(now, uint64(j*j+k)%min(b.Burst+2, 9)))
				if j%16 == 0 {
					last = x.rises(g, last)
				}
			}
		})
		if n := len(x.ends()); n < each/10 {
			t.Errorf("%v: %d of %d threads' %d let through", b, n, threads, each)
		}
	}
}

// TestP134FreeTakesAtOneTick: as many tokens are let through as the bucket has, and the state tells of each; behind one who is told that there is none left nothing is let through any more.
func TestP134FreeTakesAtOneTick(t *testing.T) {
	for i, b := range slices.Repeat([]api.Bucket{of(1, 10, 5000), of(api.MaxRate, 1, 20000), of(3, 7, 30001), of(1, api.MaxRate, 4000)}, 6) {
		x := &run{t: t, meter: made(t, b)}
		now := []uint64{0, 12345, api.MaxTick}[i%3]
		var none atomic.Bool
		plays.Freely(t, 2+i%7, func(k int) {
			g, left := gateOf(i, k), b.Burst
			for j := uint64(0); !x.wrong.Load(); j++ {
				ended, n := none.Load(), 1+j*uint64(k)%3
				ok := x.take(g, k, take(now, n))
				if ok && ended {
					x.fail("%d let through behind one that was not", n)
				}
				if v := level(now).of(x.meter, g); v.e != api.OK || v.v > left {
					x.fail("the level is %v, behind %d", v, left)
				} else {
					left = v.v
				}
				if n == 1 && !ok {
					none.Store(true)
					return
				}
			}
		})
		all := uint64(0)
		for _, a := range slices.Concat(x.let[:]...) {
			all += a.n
		}
		if all != b.Burst {
			t.Errorf("%v: %d tokens let through", b, all)
		}
		is(t, "at the end", x.meter, nil, state(), number(now*b.Num+b.Burst*b.Den))
		is(t, "at the end", x.meter, nil, level(now), number(0))
	}
}

// emptied answers how many tokens are let through, if at each tick as many are taken one by one as there are.
func emptied(t *testing.T, b api.Bucket, ticks uint64) int {
	t.Helper()
	n, s := 0, uint64(0)
	for now := uint64(0); now <= ticks; {
		next, ok := stateBehind(t, b, s, take(now, 1))
		if s = next; ok {
			n++
		} else {
			now++
		}
	}
	return n
}

// TestP134FreeTakesOfOneClock: the ticks are those of a clock that all share, and that goes on when somebody is told that there is none left: so many who take get as many as one alone.
func TestP134FreeTakesOfOneClock(t *testing.T) {
	const ticks = 900
	for i, b := range slices.Repeat([]api.Bucket{of(1, 1, 2), of(5, 2, 9), of(2, 9, 1), of(7, 3, 2)}, 6) {
		x := &run{t: t, meter: made(t, b)}
		var clock atomic.Uint64
		plays.Freely(t, 2+i%5, func(k int) {
			g := gateOf(i, k)
			for now := clock.Load(); now <= ticks && !x.wrong.Load(); now = clock.Load() {
				if !x.take(g, k, take(now, 1)) {
					clock.CompareAndSwap(now, now+1)
				}
			}
		})
		if n, want := len(x.ends()), emptied(t, b, ticks); n != want {
			t.Errorf("%v: %d tokens let through, not %d", b, n, want)
		}
	}
}

// TestP133FreeTakesAllAtOnce: of many meters one after the other, all threads take from one at the same time.
func TestP133FreeTakesAllAtOnce(t *testing.T) {
	const threads, meters = 4, 4000
	for i := range 6 {
		var list []*meter.Meter
		for range meters {
			list = append(list, made(t, of(1, 10, 3)))
		}
		come, took := make([]atomic.Int64, meters), make([]atomic.Int64, meters)
		plays.Freely(t, threads, func(k int) {
			g := gateOf(i, k)
			for j, m := range list {
				come[j].Add(1)
				for come[j].Load() < threads {
					runtime.Gosched()
				}
				if ok, _ := m.Take(g, 7, 1); ok {
					took[j].Add(1)
				}
			}
		})
		for j, m := range list {
			if n := took[j].Load(); n != 3 {
				t.Fatalf("%d let through, of 3", n)
			}
			is(t, "behind them", m, nil, state(), number(37))
		}
	}
}

// TestP132FreeTakesTellTheirSteps: under gates that hold nobody up each Take tells of Loads and compare and swaps in turn; the last one is a compare and swap just if it says true.
func TestP132FreeTakesTellTheirSteps(t *testing.T) {
	for range 6 {
		m := made(t, of(1, 3, 900))
		var wrong atomic.Bool
		plays.Freely(t, 6, func(int) {
			for j := range uint64(500) {
				n := turn.NewNotes()
				got := take(j, 1).of(m, yieldingNotes{n})
				marks := n.Marks()
				rounds := (len(marks) + 1) / 2
				want := slices.Repeat([]api.Mark{load, cas}, rounds)
				if !got.let {
					want = want[:max(2*rounds-1, 0)]
				}
				if (rounds == 0 || got.e != api.OK || !slices.Equal(marks, want)) && !wrong.Swap(true) {
					t.Errorf("%v tells %v", got, marks)
				}
			}
		})
	}
}

// yieldingNotes is a gate that notes, and lets others run.
type yieldingNotes struct{ notes *turn.Notes }

func (y yieldingNotes) Step(m api.Mark) {
	y.notes.Step(m)
	plays.Yielding(runtime.Gosched).Step(m)
}

func TestP134FreeAnswersAreThoseOfAnOrder(t *testing.T) {
	for _, x := range []play{
		{0, slow(), nil, [][]ask{one(take(0, 2)), one(take(0, 2))}},
		{0, slow(), nil, [][]ask{one(take(0, 1)), one(take(0, 1)), one(take(0, 2))}},
		{0, slow(), one(take(0, 1)), [][]ask{one(take(0, 1), take(5, 1)), one(take(10, 2), state())}},
		{0, slow(), nil, [][]ask{one(take(0, 3)), one(level(0), state()), one(take(20, 1))}},
		{0, of(1, 1, 4), nil, [][]ask{one(take(0, 2)), one(take(1, 3)), one(take(2, 2))}},
	} {
		plays.AsOfAnOrder(t, 1000, gateOf, x.asks, func() asked { return asIs(made(t, x.bucket, x.ahead...)) })
	}
}
