package meter_test

import (
	"slices"
	"testing"

	"patchbay/api"
	"patchbay/bucket"
	"patchbay/gates"
	"patchbay/meter"
	"patchbay/plays"
)

// twin does what the chapter's steps say of a meter, by one thread at a time.
type twin struct {
	bucket api.Bucket
	state  uint64
	swaps  int // how often it was swapped
	met    meetings
}

// meetings are how often Takes met others: a compare and swap that did not swap, for the first time and again; a Load behind such a one that found too little left; a compare and swap that swapped, since the others' that came ahead of it had left the state as it was.
type meetings struct {
	round, again int
	overtaken    int
	unchanged    int
}

// add counts those of another play, too.
func (m *meetings) add(x meetings) {
	m.round += x.round
	m.again += x.again
	m.overtaken += x.overtaken
	m.unchanged += x.unchanged
}

// twinOf answers a twin of a meter of which that was taken ahead.
func twinOf(t *testing.T, b api.Bucket, ahead ...ask) *twin {
	t.Helper()
	s, _ := stateBehind(t, b, 0, ahead...)
	return &twin{bucket: b, state: s}
}

func (w *twin) Take(g api.Gate, now, n uint64) (bool, api.Errno) {
	if now > api.MaxTick {
		return false, api.ErrRange
	}
	for round := 0; ; round++ {
		gates.Tell(g, api.OpLoad, 0)
		s, swaps := w.state, w.swaps
		t, ok, e := bucket.Take(w.bucket, s, now, n)
		if !ok {
			if round > 0 {
				w.met.overtaken++
			}
			return false, e
		}
		gates.Tell(g, api.OpCAS, 0)
		if w.state == s {
			if w.swaps > swaps {
				w.met.unchanged++
			}
			w.state = t
			w.swaps++
			return true, api.OK
		}
		w.met.round++
		if round > 0 {
			w.met.again++
		}
	}
}

func (w *twin) Level(g api.Gate, now uint64) (uint64, api.Errno) {
	if now > api.MaxTick {
		return 0, api.ErrRange
	}
	gates.Tell(g, api.OpLoad, 0)
	return bucket.Level(w.bucket, w.state, now)
}

func (w *twin) State(g api.Gate) (uint64, api.Errno) {
	gates.Tell(g, api.OpLoad, 0)
	return w.state, api.OK
}

// done is a call of a play that has answered.
type done = plays.Done[ask, answer]

// play is threads that ask so of a meter by that bucket, of which that was taken ahead, by all orders of so many first turns.
type play struct {
	turns  int
	bucket api.Bucket
	ahead  []ask
	asks   [][]ask
}

// byAllOrders holds what threads are answered against the twin and against the words of P13.3 to P13.5, and answers what the twin's calls met.
func byAllOrders(t *testing.T, list ...play) meetings {
	t.Helper()
	var met meetings
	for _, x := range list {
		var m *meter.Meter
		for p, calls := range plays.Twins(t, x.turns, x.asks, func() asked {
			m = made(t, x.bucket, x.ahead...)
			return asIs(m)
		}, func() asked {
			w := twinOf(t, x.bucket, x.ahead...)
			y := asIs(w)
			y.Words = func() []uint64 {
				met.add(w.met)
				return []uint64{w.state}
			}
			return y
		}) {
			x.follows(t, p, m, calls)
		}
	}
	return met
}

func TestP132ByAllOrders(t *testing.T) {
	b := slow()
	met := byAllOrders(t,
		play{api.MaxTurns, b, nil, [][]ask{one(take(0, 2)), one(take(0, 2))}},
		play{api.MaxTurns, b, nil, [][]ask{one(take(0, 1)), one(take(0, 1)), one(take(0, 1))}},
		play{api.MaxTurns, b, one(take(0, 1)), [][]ask{one(take(0, 1)), one(take(0, 1)), one(take(0, 1))}},
		play{api.MaxTurns, b, nil, [][]ask{one(take(0, 2), take(10, 1)), one(take(10, 2), take(0, 1))}},
		play{api.MaxTurns, b, nil, [][]ask{one(take(0, 3)), one(take(0, 0)), one(take(0, 4))}},
		play{api.MaxTurns, b, nil, [][]ask{one(take(0, 2)), one(level(0), state()), one(take(20, 1))}},
		play{api.MaxTurns, b, nil, [][]ask{one(take(api.MaxTick+1, 1), take(0, 1)), one(take(0, 2), level(api.MaxTick+1)), one(level(5))}},
		play{9, b, nil, [][]ask{repeated(take(0, 1), 3), repeated(take(5, 1), 3), one(state(), take(30, 2))}},
		play{8, b, one(take(7, 3)), [][]ask{one(take(17, 1)), one(take(27, 1)), one(take(7, 0)), one(take(37, 3))}},
		play{6, of(3, 2, 5), nil, [][]ask{one(take(0, 3)), one(take(1, 3)), one(take(2, 3)), one(take(3, 3)), one(take(0, 3))}},
	)
	if met.round == 0 || met.again == 0 || met.overtaken == 0 || met.unchanged == 0 {
		t.Errorf("%+v", met)
	}
}

// TestP132OfTheGreatestNumbersByAllOrders: of the greatest buckets, at the last ticks.
func TestP132OfTheGreatestNumbersByAllOrders(t *testing.T) {
	for _, b := range buckets() {
		full := one(take(api.MaxTick, b.Burst))
		most := b.Burst - b.Burst/2
		byAllOrders(t,
			play{api.MaxTurns, b, nil, [][]ask{one(take(api.MaxTick, most)), one(take(api.MaxTick, most)), one(level(api.MaxTick))}},
			play{api.MaxTurns, b, nil, [][]ask{one(take(0, b.Burst)), one(take(api.MaxTick, 1)), one(take(api.MaxTick-1, b.Burst))}},
			play{api.MaxTurns, b, nil, [][]ask{one(take(0, top)), one(take(api.MaxTick, b.Burst)), one(take(3, b.Burst+1), take(3, 1))}},
			play{api.MaxTurns, b, full, [][]ask{one(take(api.MaxTick, 0)), one(take(api.MaxTick, 1)), one(state(), level(0))}},
		)
	}
}

// TestP134TheStateNeverFalls: looked at between any two operations.
func TestP134TheStateNeverFalls(t *testing.T) {
	for _, threads := range [][][]ask{
		{one(take(0, 1), take(20, 0)), one(take(10, 2), take(0, 1)), one(take(5, 1))},
		{one(take(0, 0), take(0, 0)), one(take(30, 3)), one(take(api.MaxTick, 0))},
		{one(take(api.MaxTick, 3)), one(take(0, 1)), one(take(0, 2), take(1, 3))},
	} {
		var m *meter.Meter
		var last, rose uint64
		for p := range plays.Whole(t, 9, func() []func(g api.Gate) {
			m, last = made(t, slow()), 0
			var bodies []func(g api.Gate)
			for _, asks := range threads {
				bodies = append(bodies, func(g api.Gate) {
					for _, a := range asks {
						a.of(m, g)
					}
				})
			}
			return plays.Watched(func() {
				now := state().of(m, nil)
				if now.v < last || now.e != api.OK {
					t.Errorf("the state is %v, behind %d", now, last)
				}
				rose += now.v - last
				last = now.v
			}, bodies...)
		}) {
			if last == 0 {
				t.Errorf("by %v: nothing was taken", plays.Order(p.Trace))
			}
		}
		if rose == 0 {
			t.Error("the state never rose")
		}
	}
}

func TestP132ExamplesByOrders(t *testing.T) {
	for _, x := range []struct {
		name   string
		ahead  []ask
		play   plays.Example[ask, answer]
		behind uint64
	}{
		{"two that look ahead of either swap", nil, plays.Example[ask, answer]{
			Order: []int{0, 1, 0, 1}, Asks: [][]ask{one(take(0, 2)), one(take(0, 2))}, Want: []answer{let(true), let(false)},
			Threads: []int{0, 1, 0, 1, 1}, Marks: []api.Mark{load, load, cas, cas, load},
		}, 20},
		{"one that goes round, and swaps then", nil, plays.Example[ask, answer]{
			Order: []int{0, 1, 1, 0}, Asks: [][]ask{one(take(0, 1)), one(take(0, 2))}, Want: []answer{let(true), let(true)},
			Threads: []int{0, 1, 1, 0, 0, 0}, Marks: []api.Mark{load, load, cas, cas, load, cas},
		}, 30},
		{"one behind which the state is what it was", nil, plays.Example[ask, answer]{
			Order: []int{0, 1, 1, 0}, Asks: [][]ask{one(take(0, 2)), one(take(0, 0))}, Want: []answer{let(true), let(true)},
			Threads: []int{0, 1, 1, 0}, Marks: []api.Mark{load, load, cas, cas},
		}, 20},
		{"one that takes nothing goes round, too", nil, plays.Example[ask, answer]{
			Order: []int{0, 1, 1, 0}, Asks: [][]ask{one(take(0, 0)), one(take(0, 3))}, Want: []answer{let(true), let(true)},
			Threads: []int{0, 1, 1, 0, 0, 0}, Marks: []api.Mark{load, load, cas, cas, load, cas},
		}, 30},
		{"one at an earlier tick, for which it is too much then", nil, plays.Example[ask, answer]{
			Order: []int{0, 1, 1, 0}, Asks: [][]ask{one(take(0, 0)), one(take(1, 3))}, Want: []answer{let(false), let(true)},
			Threads: []int{0, 1, 1, 0, 0}, Marks: []api.Mark{load, load, cas, cas, load},
		}, 31},
		{"one that says false ends at its Load", one(take(0, 3)), plays.Example[ask, answer]{
			Order: []int{0, 1, 1}, Asks: [][]ask{one(take(0, 1)), one(take(10, 1))}, Want: []answer{let(false), let(true)},
			Threads: []int{0, 1, 1}, Marks: []api.Mark{load, load, cas},
		}, 40},
		{"a Level between the two operations of a Take", nil, plays.Example[ask, answer]{
			Order: []int{0, 1, 0, 1}, Asks: [][]ask{one(take(0, 2)), one(level(0), level(0))}, Want: []answer{let(true), number(1)},
			Threads: []int{0, 1, 0, 1}, Marks: []api.Mark{load, load, cas, load},
		}, 20},
		{"a State between them", one(take(0, 1)), plays.Example[ask, answer]{
			Order: []int{0, 1, 0}, Asks: [][]ask{one(take(0, 2)), one(state())}, Want: []answer{let(true), number(10)},
			Threads: []int{0, 1, 0}, Marks: []api.Mark{load, load, cas},
		}, 30},
	} {
		m := made(t, slow(), x.ahead...)
		plays.AsTold(t, x.name, asIs(m), x.play)
		is(t, x.name, m, nil, state(), number(x.behind))
	}
}

// TestP135ATakeThatIsOvertaken goes round each time, and ends at last: it has two operations more for each of the others that changed the state.
func TestP135ATakeThatIsOvertaken(t *testing.T) {
	for _, others := range []uint64{0, 1, 2, 3, 10, 63, 64, 65, 255, 256, 257, 1000, api.MaxTurns/4 - 1} {
		for _, left := range []uint64{0, 1} {
			if others+left == 0 {
				continue // there is no such bucket
			}
			m := made(t, of(1, 10, others+left))
			order := []int{0}
			for range others {
				order = append(order, 1, 1, 0, 0)
			}
			p, calls, e := plays.Asked(order, [][]ask{one(take(0, 1)), repeated(take(0, 1), int(others))}, asIs(m).Of)
			last := calls[len(calls)-1]
			// Each of the others has two, and the last one says false at a Load.
			want := 2*others + 2*others + 1 + left
			if e != api.OK || uint64(len(p.Trace)) != want || last.Thread != 0 || last.Answer != let(left == 1) {
				t.Errorf("%d others: %v, %d operations, not %d; %v", others, e, len(p.Trace), want, last)
			}
			is(t, "behind them", m, nil, state(), number((others+left)*10))
		}
	}
}

// TestP135ATakeThatIsNotOvertaken: where the others leave the state as it is it does not go round.
func TestP135ATakeThatIsNotOvertaken(t *testing.T) {
	for _, others := range []int{0, 1, 2, 3, 10, 64, 257, 1000, api.MaxTurns/2 - 1} {
		m := made(t, slow(), take(5, 1))
		order := slices.Concat([]int{0}, slices.Repeat([]int{1}, 2*others), []int{0})
		p, calls, e := plays.Asked(order, [][]ask{one(take(0, 1)), repeated(take(0, 0), others)}, asIs(m).Of)
		if last := calls[len(calls)-1]; e != api.OK || len(p.Trace) != 2*others+2 || last.Thread != 0 || last.Answer != let(true) {
			t.Errorf("%d others: %v, %d operations, %v", others, e, len(p.Trace), last)
		}
		is(t, "behind them", m, nil, state(), number(25))
	}
}

// TestP133WhatIsCutOff: nothing is taken but by a compare and swap that swapped; the others go on.
func TestP133WhatIsCutOff(t *testing.T) {
	for ops := range 4 {
		m, want := made(t, slow(), take(0, 1)), uint64(10)
		cut := plays.CutOff(ops, func(g api.Gate) { m.Take(g, 0, 2) })
		if cut != (ops < 2) {
			t.Errorf("a Take behind %d operations is cut off: %v", ops, cut)
		}
		if !cut {
			want = 30
		}
		is(t, "behind it", m, nil, state(), number(want))
		is(t, "behind it", m, nil, take(0, 2), let(cut))
		if cut := plays.CutOff(ops, func(g api.Gate) { m.Level(g, 0) }); cut != (ops < 1) {
			t.Errorf("a Level behind %d operations is cut off: %v", ops, cut)
		}
		if cut := plays.CutOff(ops, func(g api.Gate) { m.State(g) }); cut != (ops < 1) {
			t.Errorf("a State behind %d operations is cut off: %v", ops, cut)
		}
		is(t, "behind it", m, nil, state(), number(30))
	}
}
