package seq_test

import (
	"testing"

	"patchbay/api"
	"patchbay/plays"
	"patchbay/seq"
	"patchbay/turn"
)

// follows holds the calls of a play, in the order in which they answered, against P5.5's words.
func follows(t *testing.T, order []int, start []uint64, calls []done, r *seq.Record) {
	t.Helper()
	of := map[uint64][]uint64{0: start}
	last := uint64(0)
	for _, d := range calls {
		if d.Ask.words == nil || d.Answer.e != api.OK {
			continue
		}
		// Whoever has written answers as soon as it has, so the later one's version is greater than all there are.
		if v := d.Answer.version; v <= last || v%2 != 0 {
			t.Errorf("by %v: the version %d behind %d", order, v, last)
		}
		last = d.Answer.version
		of[last] = d.Ask.words
	}
	for _, d := range calls {
		if d.Answer.e != api.OK {
			refused(t, order, d, calls)
		} else if d.Ask.words == nil {
			is(t, "a Read", d.Answer, answer{of[d.Answer.version], d.Answer.version, api.OK})
		}
	}
	recordIs(t, "at the end", r, last, of[last]...)
}

// refused holds a call that was refused against P5.5's words: a Write of somebody else was under way.
func refused(t *testing.T, order []int, d done, calls []done) {
	t.Helper()
	want := api.ErrTorn
	if d.Ask.words != nil {
		want = api.ErrBusy
	}
	is(t, "a refused call", d.Answer, answer{nil, 0, want})
	for _, x := range calls {
		if x.Thread != d.Thread && x.Ask.words != nil && x.From <= d.To && d.From <= x.To {
			return
		}
	}
	t.Errorf("by %v: refused, and no Write of another one was under way: %v", order, d)
}

func TestP55WhatFollowsByAllOrders(t *testing.T) {
	for _, x := range []struct {
		turns int
		start []uint64
		asks  [][]ask
	}{
		{api.MaxTurns, []uint64{5}, [][]ask{{doWrite(7)}, {doWrite(8)}, {doRead()}}},
		{10, []uint64{5, 5}, [][]ask{{doWrite(6, 6), doWrite(7, 7)}, {doRead(), doWrite(8, 8)}}},
		{9, []uint64{5, 5, 5}, [][]ask{{doWrite(6, 6, 6)}, {doWait(3), doRead()}, {doWrite(8, 8, 8)}}},
		{9, []uint64{5, 5}, [][]ask{{doWait(2)}, {doWait(2)}, {doWrite(8, 8), doWrite(9, 9)}}},
		{7, []uint64{5, 5}, [][]ask{{doWrite(6, 6)}, {doWrite(7, 7), doRead()}, {doWrite(8, 8)}, {doRead()}}},
		// The words come back, their version does not.
		{10, []uint64{5, 5}, [][]ask{{doRead(), doRead()}, {doWrite(6, 6), doWrite(5, 5), doWrite(5, 5)}}},
	} {
		everyPlay(t, x.turns, x.start, x.asks, func(p api.Played, r *seq.Record, calls []done) {
			follows(t, plays.Order(p.Trace), x.start, calls, r)
		})
	}
}

func TestP55OneThreadAloneIsNeverRefused(t *testing.T) {
	for n := 1; n <= api.MaxWords; n++ {
		r := made(t, several(n, 0)...)
		var asks []ask
		for i := range uint64(20) {
			asks = append(asks, doWrite(several(n, i+1)...), doRead(), doWait(1+int(i)))
		}
		for i, a := range asks {
			got := a.of(r, nil)
			if got.e != api.OK || got.version != uint64(i/3*2+2) {
				t.Errorf("call %d of one of %d words: %v", i, n, got)
			}
		}
	}
}

func TestP55WhatIsCutOffIsNotDone(t *testing.T) {
	for ops := range 2 {
		r := made(t, 5, 6)
		cutAt(t, ops, func(g api.Gate) { r.Write(g, 7, 8) })
		recordIs(t, "a Write that was cut off ahead of its CAS", r, 0, 5, 6)
		is(t, "another Write", wrote(r.Write(nil, 9, 9)), answer{nil, 2, api.OK})
		recordIs(t, "behind another Write", r, 2, 9, 9)
	}
	for ops := range 4 {
		r := made(t, 5, 6)
		cutAt(t, ops, func(g api.Gate) { r.Read(g) })
		cutAt(t, ops, func(g api.Gate) { r.Wait(g, 3) })
		recordIs(t, "a Read that was cut off", r, 0, 5, 6)
	}
}

func TestP55AWriteThatIsCutOffHalfWay(t *testing.T) {
	// Its steps end there: whoever comes then meets one that writes, for good.
	for ops := 2; ops < 5; ops++ {
		r := made(t, 5, 6)
		cutAt(t, ops, func(g api.Gate) { r.Write(g, 7, 8) })
		for _, g := range []api.Gate{nil, turn.NewNotes()} {
			is(t, "Read", read(r.Read(g)), answer{nil, 0, api.ErrTorn})
			is(t, "Wait", read(r.Wait(g, 3)), answer{nil, 0, api.ErrTorn})
			is(t, "Write", wrote(r.Write(g, 9, 9)), answer{nil, 0, api.ErrBusy})
		}
		if n := r.Len(); n != 2 {
			t.Errorf("Len: %d", n)
		}
	}
}
