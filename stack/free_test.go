package stack

import (
	"runtime"
	"slices"
	"sync/atomic"
	"testing"

	"patchbay/api"
	"patchbay/plays"
)

// gateOf tells the gate of a thread of a free run: none, or one that lets others run.
var gateOf = plays.Gates(runtime.Gosched)

// numberOf is the i-th number of a thread.
func numberOf(k, i int) uint64 { return uint64(k)<<32 | uint64(i) }

// run is a stack that is used freely.
type run struct {
	stack  *Stack
	pushed atomic.Int64 // how many Pushes have said true
	begun  atomic.Int64 // how many Pops were begun, but for those that said false
	wrong  atomic.Bool  // then nobody goes on
}

// push pushes a number, and answers whether there was a free node.
func (x *run) push(t *testing.T, g api.Gate, v uint64) bool {
	got := ask{false, v}.of(x.stack, g)
	if got.ok {
		x.pushed.Add(1)
	}
	// What was pushed and has no Pop lies there.
	lie := x.pushed.Load() - x.begun.Load()
	if got.e != api.OK || lie > int64(x.stack.Slots()) {
		t.Errorf("Push: %v, when %d lie there", got, lie)
		x.wrong.Store(true)
	}
	return got.ok
}

// pop pops a number, and answers whether there was one.
func (x *run) pop(t *testing.T, g api.Gate) (uint64, bool) {
	x.begun.Add(1)
	got := ask{true, 0}.of(x.stack, g)
	if !got.ok {
		x.begun.Add(-1)
	}
	if got.e != api.OK || !got.ok && got.v != 0 {
		t.Errorf("Pop: %v", got)
		x.wrong.Store(true)
	}
	return got.v, got.ok
}

// left answers what lies on a stack that nobody uses any more, the last one first, and ends in an error, unless there are as many free nodes as are left. Behind it nothing lies there.
func left(t *testing.T, s *Stack) []uint64 {
	t.Helper()
	room := 0
	for range s.Slots() {
		if ok, _ := s.Push(nil, most); ok {
			room++
		}
	}
	var numbers []uint64
	for range s.Slots() {
		if v, ok, _ := s.Pop(nil); ok {
			numbers = append(numbers, v)
		}
	}
	if len(numbers) != s.Slots() || !slices.Equal(numbers[:room], slices.Repeat([]uint64{most}, room)) {
		t.Fatalf("of %d slots: %d come out, behind %d of them were pushed at the end", s.Slots(), len(numbers), room)
	}
	holds(t, "an empty one", s)
	return numbers[room:]
}

// laterFirst ends in an error, unless of what one thread pushed the later comes first.
func laterFirst(t *testing.T, numbers []uint64) {
	t.Helper()
	ahead := map[uint64]uint64{}
	for _, v := range numbers {
		if w, ok := ahead[v>>32]; ok && w <= v {
			t.Errorf("%x comes behind %x", v, w)
			return
		}
		ahead[v>>32] = v
	}
}

// eachOnce ends in an error, unless what comes out is what was pushed, each number once.
func eachOnce(t *testing.T, pushed []uint64, out ...[]uint64) {
	t.Helper()
	want := slices.Sorted(slices.Values(pushed))
	got := slices.Sorted(slices.Values(slices.Concat(out...)))
	if !slices.Equal(got, want) {
		t.Errorf("%d numbers come out, of %d; %d different ones", len(got), len(want), len(slices.Compact(got)))
	}
}

// TestP84FreeWhatIsLeft: all do all; what was pushed and not popped is still there.
func TestP84FreeWhatIsLeft(t *testing.T) {
	for i, n := range slices.Repeat(sizes()[:7], 4) {
		x := &run{stack: made(t, n)}
		var in, out [8][]uint64
		plays.Freely(t, len(in), func(k int) {
			g := gateOf(i, k)
			for j := 0; j < 4000 && !x.wrong.Load(); j++ {
				if x.push(t, g, numberOf(k, j)) {
					in[k] = append(in[k], numberOf(k, j))
				}
				if (j+i)%5 == 0 {
					continue
				}
				if v, ok := x.pop(t, g); ok {
					out[k] = append(out[k], v)
				}
			}
		})
		rest := left(t, x.stack)
		laterFirst(t, rest)
		eachOnce(t, slices.Concat(in[:]...), append(out[:], rest)...)
	}
}

// TestP84FreeManyAndMany: some push all that they have, the others pop it all.
func TestP84FreeManyAndMany(t *testing.T) {
	for i, x := range []struct{ n, pushers, poppers int }{
		{1, 1, 1}, {8, 1, 1}, {1, 2, 2}, {2, 4, 4}, {64, 4, 4}, {2, 7, 1}, {4, 1, 7}, {api.MaxSlots, 3, 5},
	} {
		for round := range 4 {
			r := &run{stack: made(t, x.n)}
			each := 8000 / x.pushers
			var ended atomic.Int64
			in, out := make([][]uint64, x.pushers), make([][]uint64, x.poppers)
			plays.Freely(t, x.pushers+x.poppers, func(k int) {
				g := gateOf(i+round, k)
				if k < x.pushers {
					defer ended.Add(1)
					for len(in[k]) < each && !r.wrong.Load() {
						if v := numberOf(k, len(in[k])); r.push(t, g, v) {
							in[k] = append(in[k], v)
						} else {
							runtime.Gosched()
						}
					}
					return
				}
				for !r.wrong.Load() {
					last := ended.Load() == int64(x.pushers)
					if v, ok := r.pop(t, g); ok {
						out[k-x.pushers] = append(out[k-x.pushers], v)
					} else if last {
						return // whoever comes behind the last Push sees all that is left
					} else {
						runtime.Gosched()
					}
				}
			})
			eachOnce(t, slices.Concat(in...), out...)
			holds(t, "at the end", r.stack)
		}
	}
}

func TestP84FreePushesAlone(t *testing.T) {
	for i := range 400 {
		n := sizes()[i%7]
		x := &run{stack: made(t, n)}
		var in [8][]uint64
		plays.Freely(t, len(in), func(k int) {
			for j := range n {
				if x.push(t, gateOf(i, k), numberOf(k, j)) {
					in[k] = append(in[k], numberOf(k, j))
				}
			}
		})
		// Nobody pops: each node that a Push found has what it pushed.
		rest := left(t, x.stack)
		laterFirst(t, rest)
		if eachOnce(t, slices.Concat(in[:]...), rest); len(rest) != n {
			t.Errorf("of %d slots: %d numbers lie there", n, len(rest))
		}
	}
}

func TestP84FreePopsAlone(t *testing.T) {
	for i := range 400 {
		n := sizes()[i%7]
		x := &run{stack: madeOf(t, tagged(tags-uint64(i), tags-1, standing(n, from(0, n)...)))}
		x.pushed.Store(int64(n))
		var out [8][]uint64
		plays.Freely(t, len(out), func(k int) {
			for range n {
				if v, ok := x.pop(t, gateOf(i, k)); ok {
					out[k] = append(out[k], v)
				}
			}
		})
		for _, list := range out {
			laterFirst(t, list)
		}
		eachOnce(t, from(0, n), out[:]...)
		holds(t, "at the end", x.stack)
	}
}

func TestP84FreeAnswersAreThoseOfAnOrder(t *testing.T) {
	for _, x := range []struct {
		words []uint64
		asks  [][]ask
	}{
		{standing(2), [][]ask{pushes(5), pushes(6)}},
		{standing(1), [][]ask{pushes(5), pushes(6)}},
		{standing(2, 4), [][]ask{pushes(5), pushes(6)}},
		{standing(1), [][]ask{pushes(5), pops(1)}},
		{tagged(tags-1, tags-1, standing(2, 3)), [][]ask{pushes(5), pops(1)}},
		{standing(2, 3, 4), [][]ask{pops(1), pops(1)}},
		{standing(2, 3), [][]ask{pops(1), pops(1)}},
		{standing(1, 3), [][]ask{pops(1), pops(2)}},
		{standing(1), [][]ask{pushes(5, 6), pushes(7)}},
	} {
		plays.AsOfAnOrder(t, 1000, gateOf, x.asks, func() asked { return asIs(madeOf(t, x.words)) })
	}
}
