package stack

import (
	"math/rand/v2"
	"slices"
	"testing"

	"patchbay/api"
	"patchbay/plays"
)

// lying follows what lies on a stack through a play, operation by operation: the numbers, the last one on top; how many nodes are free.
type lying struct {
	numbers []uint64
	free    int
}

// swapped answers the last operation of a call that is a compare and swap of that word, by its number from 1 on: that one swapped, as the call went on behind it.
func swapped(trace []api.Turned, d done, word int) int {
	for op := d.To; op >= d.From; op-- {
		if x := trace[op-1]; x.Thread == d.Thread && x.Mark == cas(word) {
			return op
		}
	}
	return 0
}

// byOperations answers the calls of a play by the operations that count: that which took a node, and the last one.
func byOperations(trace []api.Turned, calls []done) (took, ended map[int]done) {
	took, ended = map[int]done{}, map[int]done{}
	for _, d := range calls {
		ended[d.To] = d
		word := 1
		if d.Ask.pop {
			word = 0
		}
		if d.Answer.ok {
			took[swapped(trace, d, word)] = d
		}
	}
	return took, ended
}

// take does what a call does that takes a node, and tells whether there was such a one.
func (l *lying) take(d done) bool {
	if !d.Ask.pop {
		l.free--
		return l.free >= 0
	}
	last := len(l.numbers) - 1
	if last < 0 || l.numbers[last] != d.Answer.v {
		return false
	}
	l.numbers = l.numbers[:last]
	return true
}

// end does what a call does at its end, and tells whether it may be: one that says false has found none then.
func (l *lying) end(d done) bool {
	switch {
	case d.Ask.pop && !d.Answer.ok:
		return len(l.numbers) == 0
	case !d.Answer.ok:
		return l.free == 0
	case d.Ask.pop:
		l.free++
	default:
		l.numbers = append(l.numbers, d.Ask.v)
	}
	return true
}

// follows holds a play of a stack against the words of P8.4.
func follows(t *testing.T, x start, p api.Played, s *Stack, calls []done) {
	t.Helper()
	took, ended := byOperations(p.Trace, calls)
	l := &lying{slices.Clone(x.numbers), x.n - len(x.numbers)}
	for op := 1; op <= len(p.Trace); op++ {
		d, ok := took[op]
		fits := !ok || l.take(d)
		if e, ok := ended[op]; ok {
			d, fits = e, fits && l.end(e)
		}
		if !fits || len(l.numbers) > x.n || len(l.numbers)+l.free > x.n {
			t.Errorf("by %v: %v, when %v lie there and %d nodes are free", plays.Order(p.Trace), d, l.numbers, l.free)
		}
	}
	if len(took) != count(calls) || len(l.numbers)+l.free != x.n {
		t.Errorf("by %v: %v take %d nodes, %v lie there and %d are free", plays.Order(p.Trace), calls, len(took), l.numbers, l.free)
	}
	holds(t, "what is left", s, l.numbers...)
}

// count answers how many calls said true.
func count(calls []done) int {
	n := 0
	for _, d := range calls {
		if d.Answer.ok {
			n++
		}
	}
	return n
}

func TestP84LongPlays(t *testing.T) {
	// Always the same numbers: it is a list of many orders, and no chance.
	from := rand.New(rand.NewPCG(8, 4))
	var met meetings
	for i := range 600 {
		asks := make([][]ask, 2+i%5)
		for k := range asks {
			for j := range 50 {
				if from.IntN(2) == 0 {
					asks[k] = append(asks[k], ask{true, 0})
				} else {
					asks[k] = append(asks[k], ask{false, uint64(1000*(k+1) + j)})
				}
			}
		}
		var order []int
		for len(order) < 1500 {
			order = append(order, slices.Repeat([]int{from.IntN(len(asks))}, 1+from.IntN(1+i%24))...)
		}
		x := start{sizes()[i%4], [2]uint64{tags - uint64(from.IntN(60)), uint64(from.IntN(3))}, nil}
		w, s := twinOf(x.words()), madeOf(t, x.words())
		w.met = met
		p, calls, e := plays.Asked(order, asks, asking(s))
		want, wanted, _ := plays.Asked(plays.Order(p.Trace), asks, asking(w))
		met = w.met
		if e != api.OK || len(p.Cut) != 0 || len(calls) != 50*len(asks) {
			t.Fatalf("%v, cut %v, %d calls", e, p.Cut, len(calls))
		}
		if !slices.Equal(p.Trace, want.Trace) || !slices.Equal(calls, wanted) || !slices.Equal(wordsOf(s), w.words()) {
			t.Fatalf("by %v: not as the steps say", plays.Order(p.Trace))
		}
		follows(t, x, p, s, calls)
	}
	if slices.Contains(met.all(), 0) {
		t.Errorf("%v", met)
	}
}

// TestP84WhatIsCutOffHasItsNode: what was done of it stands; the node that it took comes no more, the others do.
func TestP84WhatIsCutOffHasItsNode(t *testing.T) {
	const ops = 7 // of a Push, and of a Pop, that says true
	for _, a := range []ask{{false, 9}, {true, 0}} {
		for done := range ops + 1 {
			s, w := madeOf(t, standing(4, 5, 6)), twinOf(standing(4, 5, 6))
			cut := plays.CutOff(done, func(g api.Gate) { a.of(s, g) })
			plays.CutOff(done, func(g api.Gate) { a.of(w, g) })
			if cut != (done < ops) {
				t.Errorf("%v behind %d operations is cut off: %v", a, done, cut)
			}
			wordsAre(t, "what is cut off", s, w.words())
			left, room := []uint64{5, 6}, 2
			if done >= 3 && a.pop {
				left = left[:1]
			} else if done >= 3 {
				room--
			}
			if !cut && a.pop {
				room++
			} else if !cut {
				left = append(left, 9)
			}
			for i := range room {
				is(t, "behind it", s, nil, ask{false, uint64(20 + i)}, yes())
				left = append(left, uint64(20+i))
			}
			is(t, "behind it", s, nil, ask{false, 99}, no())
			for _, v := range slices.Backward(left) {
				is(t, "behind it", s, nil, ask{true, 0}, popped(v))
			}
			is(t, "behind it", s, nil, ask{true, 0}, no())
		}
	}
}

// TestP84NobodyWaits: whoever stands still between two of its operations, others come through.
func TestP84NobodyWaits(t *testing.T) {
	x := at(8, from(1, 4)...)
	for _, a := range []ask{{false, 9}, {true, 0}} {
		for ops := range 7 {
			s := madeOf(t, x.words())
			others := append(append(pushes(from(10, 10)...), pops(20)...), pushes(from(30, 10)...)...)
			order := append(slices.Repeat([]int{0}, ops), slices.Repeat([]int{1}, 400)...)
			p, calls, e := plays.Asked(order, [][]ask{{a}, others}, asking(s))
			if last := len(calls) - 1; e != api.OK || len(p.Cut) != 0 || last != len(others) || calls[last].Thread != 0 {
				t.Fatalf("%v, cut %v, %v", e, p.Cut, calls)
			}
			follows(t, x, p, s, calls)
		}
	}
}
