package queue

import (
	"math/rand/v2"
	"slices"
	"testing"

	"patchbay/api"
	"patchbay/plays"
)

// ticket is one that was drawn in a play: by which thread; the number of the operation that drew it, and of the one with which its slot was handed on; the value that was put in, or taken.
type ticket struct {
	thread  int
	at, end int
	v       uint64
}

// draws answers the tickets that were drawn in a play, in their order: those of that word.
func draws(t *testing.T, word int, trace []api.Turned, calls []done) []ticket {
	t.Helper()
	var list []ticket
	for i, x := range trace {
		if x.Mark != cas(word) {
			continue
		}
		own := ownFrom(trace, i, x.Thread)
		// Behind one that did not swap its call looks at the tickets again.
		if len(own) < 3 || trace[own[1]].Mark == load(word) {
			continue
		}
		list = append(list, ticket{x.Thread, i + 1, own[2] + 1, 0})
	}
	for _, d := range calls {
		values := d.Answer.took
		if d.Ask.kind == doPut && d.Answer.ok {
			values = []uint64{d.Ask.v}
		}
		if (d.Ask.kind == doPut) != (word == 0) {
			continue
		}
		drew := 0
		for i, x := range list {
			if x.thread == d.Thread && d.From <= x.at && x.at <= d.To {
				if drew < len(values) {
					list[i].v = values[drew]
				}
				drew++
			}
		}
		if drew != len(values) {
			t.Errorf("by %v: %v drew %d tickets", plays.Order(trace), d, drew)
		}
	}
	return list
}

// ownFrom answers the places of a thread's operations in a trace, from that one on.
func ownFrom(trace []api.Turned, from, thread int) []int {
	var own []int
	for i := from; i < len(trace); i++ {
		if trace[i].Thread == thread {
			own = append(own, i)
		}
	}
	return own
}

// drawnBy counts the tickets that were drawn by that operation.
func drawnBy(list []ticket, op int) int {
	n := 0
	for _, x := range list {
		if x.at <= op {
			n++
		}
	}
	return n
}

// follows holds a play of a queue in which these values were against the words of P7.2, P7.5 and P7.6.
func follows(t *testing.T, were []uint64, p api.Played, q *Queue, calls []done) {
	t.Helper()
	in, out := draws(t, 0, p.Trace, calls), draws(t, 1, p.Trace, calls)
	all := slices.Clone(were)
	for _, x := range in {
		all = append(all, x.v)
	}
	var took []uint64
	for _, x := range out {
		took = append(took, x.v)
	}
	if len(took) > len(all) || !slices.Equal(took, all[:len(took)]) {
		t.Fatalf("by %v: %v were taken of %v", plays.Order(p.Trace), took, all)
	}
	handedOn(t, p.Trace, len(were), q.Slots(), in, out)
	for _, d := range calls {
		falseFits(t, p.Trace, len(were), q.Slots(), in, out, d)
		rounds(t, p.Trace, append(slices.Clone(in), out...), d)
	}
	holds(t, "what is left", q, all[len(took):]...)
}

// handedOn ends in an error, if a ticket was drawn ahead of its slot's being handed on by who had it last.
func handedOn(t *testing.T, trace []api.Turned, were, n int, in, out []ticket) {
	t.Helper()
	for i, x := range in {
		if last := were + i - n; last >= 0 && (last >= len(out) || out[last].end >= x.at) {
			t.Errorf("by %v: the value %d was put in ahead of room", plays.Order(trace), x.v)
		}
	}
	for i, x := range out {
		if put := i - were; put >= 0 && in[put].end >= x.at {
			t.Errorf("by %v: the value %d was taken ahead of being there", plays.Order(trace), x.v)
		}
	}
}

// falseFits ends in an error, if a call said false though, at its last operation, the slot of the next ticket was free, or had a value.
func falseFits(t *testing.T, trace []api.Turned, were, n int, in, out []ticket, d done) {
	t.Helper()
	fits := true
	switch {
	case d.Ask.kind == doPut && !d.Answer.ok:
		// Who takes from the slot.
		last := were + drawnBy(in, d.To) - n
		fits = last >= 0 && (last >= len(out) || out[last].end > d.To)
	case d.Ask.kind == doTake && !d.Answer.ok, d.Ask.kind == doDrain && len(d.Answer.took) < n:
		// Who puts in there.
		put := drawnBy(out, d.To) - were
		fits = put >= 0 && (put >= len(in) || in[put].end > d.To)
	}
	if !fits || len(d.Answer.took) > n {
		t.Errorf("by %v: %v, of %d slots", plays.Order(trace), d, n)
	}
}

// rounds holds a call against P7.6: how many operations it had, how many tickets others drew meanwhile.
func rounds(t *testing.T, trace []api.Turned, drawn []ticket, d done) {
	t.Helper()
	had, others := 0, 0
	for _, x := range trace[d.From-1 : d.To] {
		if x.Thread == d.Thread {
			had++
		}
	}
	for _, x := range drawn {
		if x.thread != d.Thread && d.From < x.at && x.at < d.To {
			others++
		}
	}
	if d.Ask.kind != doDrain && had > 3*others+5 {
		t.Errorf("by %v: %v had %d operations, while others drew %d tickets", plays.Order(trace), d, had, others)
	}
}

func TestP75NoneLostNoneTwiceByAllOrders(t *testing.T) {
	for _, x := range []struct {
		turns, n int
		before   uint64
		were     []uint64
		asks     [][]ask
	}{
		{12, 2, 0, nil, [][]ask{puts(91, 92, 93), takes(3)}},
		{12, 2, 5, []uint64{1, 2}, [][]ask{append(takes(2), puts(91, 92)...), append(puts(81, 82), takes(2)...)}},
		{9, 4, 0, []uint64{1, 2, 3}, [][]ask{puts(91, 92, 93, 94), drains(2)}},
		{8, 2, 1, []uint64{1}, [][]ask{puts(91, 92), puts(81, 82), takes(3)}},
		{8, 2, 0, []uint64{1, 2}, [][]ask{puts(91, 92), takes(2), takes(2)}},
		{8, 4, top, []uint64{1, 2}, [][]ask{puts(91, 92), puts(81, 82, 83), drains(2)}},
		{6, 2, 0, nil, [][]ask{puts(91, 92), puts(81, 82), takes(2), takes(2)}},
		{6, 2, 0, []uint64{1, 2}, [][]ask{puts(91, 92), puts(81), takes(2), drains(1)}},
		{5, 4, 3, []uint64{1}, [][]ask{puts(91), puts(81), takes(1), takes(1), append(drains(1), puts(71)...)}},
	} {
		everyPlay(t, x.turns, standing(x.n, x.before, x.were...), x.asks, func(p api.Played, q *Queue, calls []done) {
			follows(t, x.were, p, q, calls)
		})
	}
}

func TestP75LongPlays(t *testing.T) {
	// Always the same numbers: it is a list of many orders, and no chance.
	from := rand.New(rand.NewPCG(7, 5))
	for i := range 400 {
		asks := make([][]ask, 2+i%4)
		calls := 0
		for k := range asks {
			for j := range 60 {
				switch from.IntN(9) {
				case 0:
					asks[k] = append(asks[k], ask{doDrain, 0})
				case 1, 2, 3:
					asks[k] = append(asks[k], ask{doTake, 0})
				default:
					asks[k] = append(asks[k], ask{doPut, uint64(1000*k + j)})
				}
				calls++
			}
		}
		var order []int
		for len(order) < 1000 {
			order = append(order, slices.Repeat([]int{from.IntN(len(asks))}, 1+from.IntN(1+i%16))...)
		}
		n := sizes()[i%5]
		q := made(t, n)
		p, all, e := plays.Asked(order, asks, asking(q))
		if e != api.OK || len(p.Cut) != 0 || len(all) != calls {
			t.Fatalf("%v, cut %v, %d calls", e, p.Cut, len(all))
		}
		follows(t, nil, p, q, all)
	}
}

// TestP76RoundsByOthersTickets: each ticket that others draw ahead of a call's compare and swap costs it three operations, ahead of its look at the slot two.
func TestP76RoundsByOthersTickets(t *testing.T) {
	const others = 40
	for _, x := range []struct {
		name  string
		words []uint64
		asks  [][]ask
		look  int // the operations of a round
	}{
		{"a Put that does not swap", standing(64, 0), [][]ask{puts(9), puts(from(10, others)...)}, 3},
		{"a Take that does not swap", standing(64, 0, from(10, 64)...), [][]ask{takes(1), takes(others)}, 3},
		{"a Put that looks late", standing(64, 0), [][]ask{puts(9), puts(from(10, others)...)}, 2},
		{"a Take that looks late", standing(64, 0, from(10, 64)...), [][]ask{takes(1), takes(others)}, 2},
	} {
		var order []int
		for range others {
			order = append(order, slices.Repeat([]int{0}, x.look-1)...)
			order = append(order, 1, 1, 1, 1, 1, 0)
		}
		q := madeOf(t, x.words)
		p, calls, e := plays.Asked(order, x.asks, asking(q))
		last := calls[len(calls)-1]
		had := len(ownFrom(p.Trace, 0, 0))
		if e != api.OK || last.Thread != 0 || !last.Answer.ok || had != x.look*others+5 {
			t.Errorf("%s: %v, %v had %d operations", x.name, e, last, had)
		}
	}
}

// TestP76NobodyWaits: whoever stands still between two of its operations, others come through, up to the slot of its ticket.
func TestP76NobodyWaits(t *testing.T) {
	for _, x := range []struct {
		ask       ask
		ops       []int
		put, took int // by others
	}{
		{ask{doPut, 5}, []int{0, 1, 2}, 8, 16},
		{ask{doPut, 5}, []int{3, 4}, 7, 8},
		{ask{doTake, 0}, []int{0, 1, 2}, 8, 16},
		{ask{doTake, 0}, []int{3, 4}, 8, 15},
	} {
		for _, ops := range x.ops {
			q := madeOf(t, standing(16, 0, from(1, 8)...))
			order := append(slices.Repeat([]int{0}, ops), slices.Repeat([]int{1}, 400)...)
			p, calls, e := plays.Asked(order, [][]ask{{x.ask}, append(puts(from(10, 40)...), takes(40)...)}, asking(q))
			if e != api.OK || len(p.Cut) != 0 || len(calls) != 81 || calls[80].Thread != 0 {
				t.Fatalf("%v, cut %v, %v", e, p.Cut, calls)
			}
			put, took := 0, 0
			for _, d := range calls[:80] {
				if d.Answer.ok && d.Ask.kind == doPut {
					put++
				}
				took += len(d.Answer.took)
			}
			if put != x.put || took != x.took {
				t.Errorf("behind %d operations of %v: %d were put in, %d taken", ops, x.ask, put, took)
			}
			follows(t, from(1, 8), p, q, calls)
		}
	}
}

func TestP75WhatIsCutOffAheadOfItsTicketIsNotDone(t *testing.T) {
	for ops := range 3 {
		q := madeOf(t, standing(2, 3, 5))
		for _, a := range []ask{{doPut, 9}, {doTake, 0}, {doDrain, 0}, {doPut, 8}} {
			if !plays.CutOff(ops, func(g api.Gate) { a.of(q, g) }) {
				t.Errorf("%v is not cut off behind %d operations", a, ops)
			}
		}
		if want := standing(2, 3, 5); !slices.Equal(wordsOf(q), want) {
			t.Errorf("behind %d operations: %v, not %v", ops, wordsOf(q), want)
		}
		holds(t, "behind those", q, 5)
	}
}

// TestP72WhatIsCutOffBehindItsTicketKeepsItsSlot: it has not done its last operation, and never will.
func TestP72WhatIsCutOffBehindItsTicketKeepsItsSlot(t *testing.T) {
	for ops := 3; ops <= 5; ops++ {
		q := madeOf(t, standing(4, 0, 5))
		cut := plays.CutOff(ops, func(g api.Gate) { q.Put(g, 9) })
		if cut != (ops < 5) {
			t.Errorf("a Put behind %d operations is cut off: %v", ops, cut)
		}
		is(t, "behind a Put", q, nil, ask{doPut, 6}, yes())
		if !cut {
			holds(t, "behind a Put", q, 5, 9, 6)
			continue
		}
		is(t, "behind a Put", q, nil, ask{doDrain, 0}, list(5))
		is(t, "behind a Put", q, nil, ask{doPut, 7}, yes())
		is(t, "behind a Put", q, nil, ask{doPut, 8}, yes())
		is(t, "behind a Put", q, nil, ask{doPut, 4}, no())
		is(t, "behind a Put", q, nil, ask{doTake, 0}, no())
	}
	for ops := 3; ops <= 5; ops++ {
		q := madeOf(t, standing(4, 0, 5, 6, 7))
		cut := plays.CutOff(ops, func(g api.Gate) { q.Take(g) })
		if cut != (ops < 5) {
			t.Errorf("a Take behind %d operations is cut off: %v", ops, cut)
		}
		is(t, "behind a Take", q, nil, ask{doPut, 8}, yes())
		is(t, "behind a Take", q, nil, ask{doTake, 0}, took(6))
		if !cut {
			holds(t, "behind a Take", q, 7, 8)
			continue
		}
		is(t, "behind a Take", q, nil, ask{doPut, 9}, no())
		is(t, "behind a Take", q, nil, ask{doDrain, 0}, list(7, 8))
		is(t, "behind a Take", q, nil, ask{doPut, 9}, no())
		is(t, "behind a Take", q, nil, ask{doTake, 0}, no())
	}
}
