package gauge_test

import (
	"runtime"
	"slices"
	"sync/atomic"
	"testing"

	"patchbay/api"
	"patchbay/gauge"
	"patchbay/plays"
	"patchbay/turn"
)

// gateOf tells the gate of a thread of a free run: none, or one that lets others run.
var gateOf = plays.Gates(runtime.Gosched)

// run is a gauge that is used freely, and what is known of it beside.
type run struct {
	t       *testing.T
	gauge   *gauge.Gauge
	limit   uint64
	come    atomic.Int64 // who got in, and has not begun to leave: no more than are in
	tried   atomic.Int64 // how many Enters were begun
	entered atomic.Int64 // how many were let
	gone    atomic.Int64 // how many Leaves were answered OK
	most    atomic.Int64 // the most that come ever was
	wrong   atomic.Bool  // then nobody goes on
}

// begin answers a gauge with that limit.
func begin(t *testing.T, limit uint64) *run {
	return &run{t: t, gauge: made(t, limit), limit: limit}
}

// fail ends in an error, once.
func (x *run) fail(text string, about ...any) {
	if !x.wrong.Swap(true) {
		x.t.Errorf(text, about...)
	}
}

// enter enters, and answers whether one is in.
func (x *run) enter(g api.Gate) bool {
	x.tried.Add(1)
	got := enter.of(x.gauge, g)
	if !got.ok {
		if got != full() {
			x.fail("Enter: %v", got)
		}
		return false
	}
	x.entered.Add(1)
	n := x.come.Add(1)
	for most := x.most.Load(); n > most && !x.most.CompareAndSwap(most, n); most = x.most.Load() {
	}
	if n > int64(x.limit) || got != let() {
		x.fail("Enter: %v; %d are in, where %d may be", got, n, x.limit)
	}
	return true
}

// leave leaves, having entered.
func (x *run) leave(g api.Gate) {
	x.come.Add(-1)
	if !x.leaveAnyhow(g) {
		x.fail("one who is in can't leave")
	}
}

// leaveAnyhow answers whether one left; there may be nobody who could.
func (x *run) leaveAnyhow(g api.Gate) bool {
	got := leave.of(x.gauge, g)
	if got == not(api.ErrState) {
		return false
	}
	gone := x.gone.Add(1)
	if tried := x.tried.Load(); got != left() || gone > tried {
		x.fail("Leave: %v; %d left, and %d tried to enter", got, gone, tried)
	}
	return true
}

// look holds a Get against what is known, and answers the peak, which never falls.
func (x *run) look(g api.Gate, last uint64) uint64 {
	got := get.of(x.gauge, g)
	if got.e != api.OK || got.in > x.limit || got.peak > x.limit || got.peak < last {
		x.fail("Get: %v, behind a peak of %d", got, last)
	}
	return got.peak
}

// ends holds a gauge that nobody uses any more against the words of P14.6; the peak is from least to most.
func (x *run) ends(least, most uint64) {
	x.t.Helper()
	got := get.of(x.gauge, nil)
	if want := uint64(x.entered.Load() - x.gone.Load()); got.in != want || got.peak < least || got.peak > most || got.e != api.OK {
		x.t.Errorf("at the end %v, not %d, and a peak from %d to %d", got, want, least, most)
	}
}

// TestP146FreeEntersAndLeaves: who got in leaves again, some a little later.
func TestP146FreeEntersAndLeaves(t *testing.T) {
	for i, limit := range slices.Repeat([]uint64{1, 2, 3, 5, 8, 100, api.MaxLimit}, 6) {
		n := 2 + i%15
		each := 6000 / n
		x := begin(t, limit)
		plays.Freely(t, n, func(k int) {
			g, last := gateOf(i, k), uint64(0)
			for j := 0; j < each && !x.wrong.Load(); {
				if !x.enter(g) {
					runtime.Gosched()
					continue
				}
				if (j+k)%5 == 0 {
					runtime.Gosched()
				}
				x.leave(g)
				if j%16 == 0 {
					last = x.look(g, last)
				}
				j++
			}
		})
		if want := int64(n * each); x.entered.Load() != want || x.gone.Load() != want {
			t.Errorf("%d entered, %d left, not %d", x.entered.Load(), x.gone.Load(), want)
		}
		x.ends(uint64(max(x.most.Load(), 1)), min(limit, uint64(n)))
	}
}

// TestP146FreeLeavesOfOthers: some enter alone, and some leave alone, whoever is in.
func TestP146FreeLeavesOfOthers(t *testing.T) {
	for i, limit := range slices.Repeat([]uint64{1, 2, 7, 1000, api.MaxLimit}, 6) {
		n := 2 + i%7
		x := begin(t, limit)
		plays.Freely(t, 2*n, func(k int) {
			g := gateOf(i, k/2)
			for j := 0; j < 3000 && !x.wrong.Load(); j++ {
				if k%2 == 0 {
					x.tried.Add(1)
					if got := enter.of(x.gauge, g); got == let() {
						x.entered.Add(1)
					} else if got != full() {
						x.fail("Enter: %v", got)
					}
				} else {
					x.leaveAnyhow(g)
				}
			}
		})
		if x.entered.Load() == 0 {
			t.Errorf("nobody entered")
		}
		x.ends(1, limit)
		// Just so many are in.
		for range x.entered.Load() - x.gone.Load() {
			is(t, "at the end", x.gauge, nil, leave, left())
		}
		is(t, "at the end", x.gauge, nil, leave, not(api.ErrState))
	}
}

// meet waits till so many have come.
func meet(come *atomic.Int64, n int) {
	come.Add(1)
	for come.Load() < int64(n) {
		runtime.Gosched()
	}
}

// TestP146FreeEntersAllAtOnce: of many gauges one after the other, all threads enter one at the same time, and then leave it.
func TestP146FreeEntersAllAtOnce(t *testing.T) {
	const all, gauges = 4, 2500
	for i := range 8 {
		limit := uint64(1 + i%5)
		var list []*gauge.Gauge
		for range gauges {
			list = append(list, made(t, limit))
		}
		entered, came, gone := make([]atomic.Int64, gauges), make([]atomic.Int64, gauges), make([]atomic.Int64, gauges)
		plays.Freely(t, all, func(k int) {
			g := gateOf(i, k)
			for j, x := range list {
				meet(&came[j], all)
				if ok, _ := x.Enter(g); ok {
					entered[j].Add(1)
				}
				meet(&came[j], 2*all)
				if e := x.Leave(g); e == api.OK {
					gone[j].Add(1)
				}
			}
		})
		for j, x := range list {
			if want := int64(min(limit, all)); entered[j].Load() != want || gone[j].Load() != want {
				t.Fatalf("%d of %d entered, %d left", entered[j].Load(), want, gone[j].Load())
			}
			is(t, "at the end", x, nil, get, counts(0, min(limit, all)))
		}
	}
}

// TestP146FreePeaks: threads enter so often as they may, and nobody leaves: the peak is how many are in, whoever came to it first.
func TestP146FreePeaks(t *testing.T) {
	for i := range 24 {
		const all, each = 6, 1500
		limit := uint64([]int{all * each, all*each - 1, all * each / 2, all*each + 1}[i%4])
		x := begin(t, limit)
		plays.Freely(t, all, func(k int) {
			g := gateOf(i, k)
			for range each {
				x.enter(g)
			}
		})
		want := min(limit, all*each)
		if n := uint64(x.entered.Load()); n != want {
			t.Errorf("%d entered, not %d", n, want)
		}
		is(t, "at the end", x.gauge, nil, get, counts(want, want))
	}
}

// noted is a gate that notes, and lets others run.
type noted struct{ notes *turn.Notes }

func (n noted) Step(m api.Mark) {
	n.notes.Step(m)
	plays.Yielding(runtime.Gosched).Step(m)
}

// rounds tells whether marks are those of a call that goes round: Loads and compare and swaps of a word, in turn; it answers the last one, and the marks behind them.
func rounds(word int, marks []api.Mark) (last api.OpKind, behind []api.Mark) {
	for len(marks) > 0 && marks[0] == load(word) {
		last, marks = api.OpLoad, marks[1:]
		if len(marks) > 0 && marks[0] == cas(word) {
			last, marks = api.OpCAS, marks[1:]
		}
	}
	return last, marks
}

// TestP142FreeCallsTellTheirSteps: under gates that hold nobody up.
func TestP142FreeCallsTellTheirSteps(t *testing.T) {
	for i := range 8 {
		x := begin(t, uint64(1+i))
		plays.Freely(t, 6, func(k int) {
			for j := 0; j < 400 && !x.wrong.Load(); j++ {
				n, m := turn.NewNotes(), moves(enter, leave)[(j+k)%2]
				got := m.of(x.gauge, noted{n})
				last, marks := rounds(0, n.Marks())
				if m == enter && got.ok {
					var at api.OpKind
					at, marks = rounds(1, marks)
					if at == 0 {
						last = at
					}
				}
				// The last one of word 0 swaps just if one came, or left.
				swaps := got == let() || m == leave && got == left()
				if len(marks) > 0 || swaps != (last == api.OpCAS) || last == 0 {
					x.fail("%v, %v tells %v", m, got, n.Marks())
				}
			}
		})
	}
}

func TestP146FreeAnswersAreThoseOfAnOrder(t *testing.T) {
	for _, x := range []roomPlay{
		{0, 1, nil, threads(2, enter)},
		{0, 2, nil, threads(2, enter, get)},
		{0, 1, nil, threads(3, enter)},
		{0, 2, moves(enter), [][]move{moves(enter), moves(leave), moves(get)}},
		{0, 1, nil, [][]move{moves(enter, leave), moves(leave, enter)}},
		{0, 3, moves(enter, enter), [][]move{moves(leave), moves(leave), moves(leave)}},
	} {
		plays.AsOfAnOrder(t, 1000, gateOf, x.asks, func() askedRoom { return roomIs(made(t, x.limit, x.ahead...)) })
	}
	for _, x := range []switchPlay{
		{0, of(2, 10), askers(2, bad(1), ask(11))},
		{0, of(2, 10, bad(0), bad(0)), askers(3, ask(10))},
		{0, of(2, 10, bad(0), bad(0)), [][]query{queries(ask(10), good(11)), queries(ask(12), bad(13))}},
		{0, of(2, 10, bad(0), bad(0), ask(10)), [][]query{queries(good(11)), queries(bad(12)), queries(ask(22))}},
		{0, of(1, 10), [][]query{queries(bad(1), look()), queries(bad(2), look()), queries(good(3))}},
	} {
		plays.AsOfAnOrder(t, 1000, gateOf, x.asks, func() askedSwitcher { return switcherIs(x.start.breaker(t)) })
	}
}

// TestP146FreeAsksOfOneTick: of many breakers one after the other, all threads ask one at the same time, and at the same tick.
func TestP146FreeAsksOfOneTick(t *testing.T) {
	const all, breakers = 4, 2500
	for i := range 8 {
		begin := []start{of(1, 10, bad(0)), of(2, 10, bad(0), bad(0)), of(1, 10, bad(0), ask(10)), of(2, 10, bad(0), bad(0), ask(11))}[i%4]
		now := begin.ahead[len(begin.ahead)-1].now + 10
		var list []*gauge.Breaker
		for range breakers {
			list = append(list, begin.breaker(t))
		}
		came, let := make([]atomic.Int64, breakers), make([]atomic.Int64, breakers)
		plays.Freely(t, all, func(k int) {
			g := gateOf(i, k)
			for j, b := range list {
				meet(&came[j], all)
				if ok, _ := b.Ask(g, now); ok {
					let[j].Add(1)
				}
			}
		})
		for j, b := range list {
			if n := let[j].Load(); n != 1 {
				t.Fatalf("%d may ask", n)
			}
			says(t, "at the end", b, nil, look(), stands(gauge.Trying, begin.fails, now))
		}
	}
}

// TestP146FreeAsksOfAnOpenOne: nobody tells: two that are true are at least the wait from one another, at whatever ticks all ask.
func TestP146FreeAsksOfAnOpenOne(t *testing.T) {
	for i := range 18 {
		wait, n := []uint64{1, 2, 5, 10, 100, 1 << 30}[i%6], 2+i%7
		b := of(3, wait, bad(4), bad(2), bad(1)).breaker(t)
		var let [api.MaxThreads][]uint64
		var wrong atomic.Bool
		plays.Freely(t, n, func(k int) {
			g := gateOf(i, k)
			for j := range uint64(3000) {
				now := (j + uint64(k)) * (wait/5 + 1)
				if j%5 == 0 {
					now -= min(now, 3*wait)
				}
				got := ask(now).of(b, g)
				if got.ok {
					let[k] = append(let[k], now)
				}
				if got.e != api.OK || got.ok && now < 1+wait {
					wrong.Store(true)
				}
			}
		})
		all := slices.Concat(let[:]...)
		slices.Sort(all)
		for j := 1; j < len(all); j++ {
			if all[j] < all[j-1]+wait {
				t.Fatalf("a wait of %d: asked at %d and at %d", wait, all[j-1], all[j])
			}
		}
		if len(all) < 100 || wrong.Load() {
			t.Fatalf("a wait of %d: %d asked, wrong: %v", wait, len(all), wrong.Load())
		}
		says(t, "at the end", b, nil, look(), stands(gauge.Trying, 3, all[len(all)-1]))
	}
}

// TestP146FreeFails: so many as are told, till it opens.
func TestP146FreeFails(t *testing.T) {
	for i := range 24 {
		const all, each = 6, 1000
		fails := uint64([]int{all*each + 1, all * each, all*each - 1, all * each / 2}[i%4])
		b := of(fails, 10).breaker(t)
		plays.Freely(t, all, func(k int) {
			g := gateOf(i, k)
			for range each {
				b.Tell(g, uint64(5+k), false)
			}
		})
		want := stands(gauge.Closed, all*each, 0)
		if all*each >= fails {
			// Whoever told of the last one.
			want = stands(gauge.Open, fails, look().of(b, nil).is.since)
			if want.is.since < 5 || want.is.since >= 5+all {
				t.Errorf("open since %d", want.is.since)
			}
		}
		says(t, "at the end", b, nil, look(), want)
	}
}

// can tells whether a breaker with so many fails can be that at all.
func (s standing) can(fails uint64) bool {
	if s.state == gauge.Closed {
		return s.fails < fails && s.since == 0
	}
	return (s.state == gauge.Open || s.state == gauge.Trying) && s.fails == fails && s.since <= api.MaxTick
}

// TestP146FreeAsksAndTells: who may ask tells how it went, by a clock that goes on; whenever somebody looks the breaker is what it can be.
func TestP146FreeAsksAndTells(t *testing.T) {
	var asked, opened atomic.Int64
	for i := range 24 {
		fails, wait := uint64(1+i%5), uint64(1+3*(i%4))
		b := of(fails, wait).breaker(t)
		var clock atomic.Uint64
		var wrong atomic.Bool
		plays.Freely(t, 2+i%6, func(k int) {
			g := gateOf(i, k)
			for now := clock.Add(1); now < 6000 && !wrong.Load(); now = clock.Add(1) {
				got, told := ask(now).of(b, g), heard()
				if got.ok {
					asked.Add(1)
					told = query{doTell, now, now/64%2 == 0}.of(b, g)
				}
				s := look().of(b, g)
				if s.is.state == gauge.Open {
					opened.Add(1)
				}
				if fits := got == may(got.ok) && told == heard() && s.e == api.OK && s.is.can(fails); !fits && !wrong.Swap(true) {
					t.Errorf("of %d fails, at %d: %v, %v, %v", fails, now, got, told, s)
				}
			}
		})
		// Behind them: one who tries, and tells that it went well, closes it.
		b.Ask(nil, api.MaxTick)
		b.Tell(nil, api.MaxTick, true)
		says(t, "at the end", b, nil, look(), stands(gauge.Closed, 0, 0))
	}
	if asked.Load() < 10000 || opened.Load() == 0 {
		t.Errorf("%d asked, found open %d times", asked.Load(), opened.Load())
	}
}

// TestP145FreeCallsTellTheirSteps: under gates that hold nobody up.
func TestP145FreeCallsTellTheirSteps(t *testing.T) {
	for i := range 8 {
		b := of(uint64(1+i%3), 3).breaker(t)
		var wrong atomic.Bool
		plays.Freely(t, 6, func(k int) {
			for j := range uint64(400) {
				n := turn.NewNotes()
				q := queries(ask(j), bad(j), ask(j+9), good(j), bad(j+1))[(int(j)+k)%5]
				got := q.of(b, noted{n})
				last, marks := rounds(0, n.Marks())
				// Who may not ask looked last; the others looked, or swapped.
				fits := last == api.OpLoad || last == api.OpCAS && (q.call == doTell || got.ok)
				if (len(marks) > 0 || !fits || got.e != api.OK) && !wrong.Swap(true) {
					t.Errorf("%v, %v tells %v", q, got, n.Marks())
				}
			}
		})
	}
}
