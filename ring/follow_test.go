package ring

import (
	"math/rand/v2"
	"slices"
	"testing"

	"patchbay/api"
	"patchbay/plays"
)

// levels answers how many numbers are in a ring ahead of each operation of a play, and behind them all: one more as soon as a Put has stored its count, one less as soon as a Take has.
func levels(in int, trace []api.Turned) []int {
	list := []int{in}
	for _, x := range trace {
		switch x.Mark {
		case store(1):
			in++
		case store(0):
			in--
		}
		list = append(list, in)
	}
	return list
}

// follows holds a play of one that puts and one that takes, of a ring in which these numbers were, against the words of P6.3 and P6.4.
func follows(t *testing.T, were []uint64, p api.Played, r *Ring, calls []done) {
	t.Helper()
	in, n := levels(len(were), p.Trace), r.Slots()
	if slices.Min(in) < 0 || slices.Max(in) > n {
		t.Errorf("by %v: %v were in it", plays.Order(p.Trace), in)
	}
	all, took := slices.Clone(were), []uint64(nil)
	for _, d := range calls {
		// From when it began on, till its last operation.
		had, fits := in[d.From-1:d.To], true
		switch {
		case d.Ask.kind == doLen:
			fits = lenFits(n, had, d, calls)
		case d.Ask.kind == doPut && d.Answer.ok:
			all = append(all, d.Ask.v)
		case d.Ask.kind == doPut:
			fits = slices.Contains(had, n)
		case d.Answer.ok:
			took = append(took, d.Answer.v)
		default:
			fits = slices.Contains(had, 0)
		}
		if !fits {
			t.Errorf("by %v: %v, and %v were in it", plays.Order(p.Trace), d, had)
		}
	}
	if len(took) > len(all) || !slices.Equal(took, all[:len(took)]) {
		t.Fatalf("by %v: %v were taken of %v", plays.Order(p.Trace), took, all)
	}
	holds(t, "what is left", r, all[len(took):]...)
}

// lenFits tells whether a Len answered how many there were within it; if Takes and Puts of others were under way meanwhile, at most as many as there is room for.
func lenFits(n int, had []int, d done, calls []done) bool {
	meanwhile := func(k kind) bool {
		return slices.ContainsFunc(calls, func(x done) bool {
			return x.Ask.kind == k && x.Thread != d.Thread && x.From <= d.To && d.From <= x.To
		})
	}
	v := int(d.Answer.v)
	if meanwhile(doPut) && meanwhile(doTake) {
		return 0 <= v && v <= n
	}
	return slices.Contains(had, v)
}

// full answers the words of a ring of n slots that is full of the numbers from 1 on, of which one was put and taken before.
func full(n int) []uint64 {
	words := []uint64{1, uint64(n) + 1}
	numbers := to(n)
	return append(append(words, numbers[n-1]), numbers[:n-1]...)
}

func TestP63OneAndOneByAllOrders(t *testing.T) {
	more := []uint64{91, 92, 93, 94, 95, 96}
	for n, turns := range map[int]int{1: 11, 2: 11, 4: 10, 8: 9} {
		for _, asks := range [][][]ask{
			{puts(more[:3]...), takes(3)},
			{takes(4), puts(more...)},
			{puts(more...), takes(2 * n)},
		} {
			everyPlay(t, turns, empty(n), asks, func(p api.Played, r *Ring, calls []done) {
				follows(t, nil, p, r, calls)
			})
			everyPlay(t, turns, full(n), asks, func(p api.Played, r *Ring, calls []done) {
				follows(t, to(n), p, r, calls)
			})
		}
	}
}

func TestP64RoomByAllOrders(t *testing.T) {
	for n, turns := range map[int]int{1: 8, 2: 8, 4: 7} {
		for _, asks := range [][][]ask{
			{puts(91, 92, 93), takes(3), lens(3)},
			{inTurns(puts(91, 92), lens(2)), inTurns(takes(2), lens(2))},
			{puts(91, 92), lens(3)},
			{takes(2), lens(3)},
			{inTurns(takes(2), puts(91, 92)), lens(3), lens(2)},
		} {
			everyPlay(t, turns, empty(n), asks, func(p api.Played, r *Ring, calls []done) {
				follows(t, nil, p, r, calls)
			})
			everyPlay(t, turns, full(n), asks, func(p api.Played, r *Ring, calls []done) {
				follows(t, to(n), p, r, calls)
			})
		}
	}
}

func TestP63LongPlays(t *testing.T) {
	// Always the same numbers: it is a list of many orders, and no chance.
	from := rand.New(rand.NewPCG(6, 3))
	asks := [][]ask{inTurns(puts(to(60)...), lens(20)), inTurns(takes(60), lens(20)), lens(30)}
	for i := range 400 {
		n := sizes()[i%6]
		var order []int
		for len(order) < 600 {
			order = append(order, slices.Repeat([]int{from.IntN(3)}, 1+from.IntN(1+i%16))...)
		}
		r := made(t, n)
		p, calls, e := plays.Asked(order, asks, asking(r))
		if e != api.OK || len(p.Cut) != 0 || len(calls) != 190 {
			t.Fatalf("%v, cut %v, %d calls", e, p.Cut, len(calls))
		}
		operations(t, p.Trace, calls)
		follows(t, nil, p, r, calls)
	}
}

func TestP63OneThreadDoesBoth(t *testing.T) {
	const calls = 12
	for _, n := range []int{1, 2, 4} {
		// Each number is a row of calls: the bit 1 is a Put.
		for row := range 1 << calls {
			r := made(t, n)
			var in []uint64
			for i := range calls {
				if row>>i&1 == 1 {
					room := len(in) < n
					is(t, "Put", r, nil, ask{doPut, uint64(10 + i)}, answer{0, room, api.OK})
					if room {
						in = append(in, uint64(10+i))
					}
				} else if len(in) == 0 {
					is(t, "Take", r, nil, ask{doTake, 0}, no())
				} else {
					is(t, "Take", r, nil, ask{doTake, 0}, yes(in[0]))
					in = in[1:]
				}
				is(t, "Len", r, nil, ask{doLen, 0}, many(uint64(len(in))))
			}
			holds(t, "at the end", r, in...)
		}
	}
}

func TestP63WhatIsCutOffIsNotDone(t *testing.T) {
	for ops := range 4 {
		r := made(t, 2)
		r.Put(nil, 5)
		for _, a := range []ask{{doPut, 9}, {doTake, 0}, {doPut, 8}} {
			if !plays.CutOff(ops, func(g api.Gate) { a.of(r, g) }) {
				t.Errorf("%v is not cut off behind %d operations", a, ops)
			}
		}
		is(t, "behind those", r, nil, ask{doPut, 6}, yes(0))
		is(t, "behind those", r, nil, ask{doPut, 7}, no())
		holds(t, "behind those", r, 5, 6)
	}
	r := made(t, 1)
	if plays.CutOff(4, func(g api.Gate) { r.Put(g, 5) }) || plays.CutOff(2, func(g api.Gate) { r.Len(g) }) {
		t.Error("cut off behind all operations")
	}
	holds(t, "a whole Put", r, 5)
}
