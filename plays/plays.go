// Package plays holds what the layers' tests share: all plays that there are of some threads, looks into them, threads that are cut off, and free runs.
package plays

import (
	"iter"
	"slices"

	"patchbay/api"
	"patchbay/turn"
)

// Every tells the plays of the threads that begin makes, anew for each play: all those whose first turns, so many of them, come in another order. Behind these the threads go round.
func Every(turns int, begin func() []func(g api.Gate)) iter.Seq[api.Played] {
	return func(yield func(api.Played) bool) {
		var from func(order []int) bool
		from = func(order []int) bool {
			threads := begin()
			p, e := turn.Play(order, threads...)
			if e != api.OK {
				return false
			}
			if !follows(p.Trace, order) {
				return true // it is another order's play
			}
			if !yield(p) {
				return false
			}
			for at := len(order); at < min(turns, len(p.Trace)); at++ {
				for k := range threads {
					if k != p.Trace[at].Thread && !from(append(Order(p.Trace[:at]), k)) {
						return false
					}
				}
			}
			return true
		}
		from(nil)
	}
}

// Test is whom a test's errors are told: a *testing.T.
type Test interface {
	Helper()
	Errorf(text string, about ...any)
	Fatalf(text string, about ...any)
}

// Whole tells the plays that Every tells. It is the test's end if a thread of one is cut off, and an error if there are not at least two of them.
func Whole(t Test, turns int, begin func() []func(g api.Gate)) iter.Seq[api.Played] {
	return func(yield func(api.Played) bool) {
		t.Helper()
		told := 0
		for p := range Every(turns, begin) {
			if len(p.Cut) != 0 {
				t.Fatalf("by %v: cut %v", Order(p.Trace), p.Cut)
			}
			told++
			if !yield(p) {
				return
			}
		}
		if told < 2 {
			t.Errorf("%d plays", told)
		}
	}
}

// follows tells whether the order's last number had its turn: else that thread had ended.
func follows(trace []api.Turned, order []int) bool {
	last := len(order) - 1
	return last < 0 || last < len(trace) && trace[last].Thread == order[last]
}

// Order answers a trace as the order that plays the same.
func Order(trace []api.Turned) []int {
	var order []int
	for _, x := range trace {
		order = append(order, x.Thread)
	}
	return order
}

// Trace answers the trace in which these threads did these operations.
func Trace(threads []int, marks ...api.Mark) []api.Turned {
	var trace []api.Turned
	for i, m := range marks {
		trace = append(trace, api.Turned{Thread: threads[i], Mark: m})
	}
	return trace
}

// Free runs so many threads at a time, each with its number, and waits for them all.
func Free(threads int, body func(k int)) api.Errno {
	var all []func(g api.Gate)
	for k := range threads {
		all = append(all, func(api.Gate) { body(k) })
	}
	return turn.Free(all...)
}

// Freely is Free, and the test's end where it can't be run.
func Freely(t Test, threads int, body func(k int)) {
	t.Helper()
	if e := Free(threads, body); e != api.OK {
		t.Fatalf("Free: %v", e)
	}
}

// Told answers the marks of which a call tells its gate.
func Told(call func(g api.Gate)) []api.Mark {
	n := turn.NewNotes()
	call(n)
	return n.Marks()
}

// watch is a gate that looks ahead of each of its thread's steps, when all operations that were begun are done.
type watch struct {
	gate api.Gate
	look func()
}

func (w watch) Step(m api.Mark) {
	w.look()
	w.gate.Step(m)
}

// Watched answers the threads, each with a look ahead of all its steps and at its end.
func Watched(look func(), threads ...func(g api.Gate)) []func(g api.Gate) {
	var all []func(g api.Gate)
	for _, body := range threads {
		all = append(all, func(g api.Gate) {
			defer look()
			body(watch{g, look})
		})
	}
	return all
}

// CutOff plays a thread that does the call, alone, and is cut off ahead of the operation that comes behind so many others of it; it tells whether it was.
func CutOff(ops int, call func(g api.Gate)) bool {
	ended := false
	p, e := turn.Play(nil, func(g api.Gate) {
		for range api.MaxTurns - ops {
			g.Step(api.Mark{})
		}
		call(g)
		ended = true
	})
	return e == api.OK && len(p.Trace) == api.MaxTurns && len(p.Cut) == 1 && !ended
}

// Drawn answers an order of that many turns or a few more, in which a thread has up to so many turns at once; draw draws numbers from 0 on, below the one that it is handed.
func Drawn(draw func(below int) int, turns, threads, atOnce int) []int {
	var order []int
	for len(order) < turns {
		order = append(order, slices.Repeat([]int{draw(threads)}, 1+draw(atOnce))...)
	}
	return order
}

// Copied answers an object with the same fields, which no call of its package made.
func Copied[T any](p *T) *T {
	q := *p
	return &q
}

// Load, Store, Add and CAS answer the marks of operations done to that word.
func Load(word int) api.Mark  { return api.Mark{Op: api.OpLoad, Word: word} }
func Store(word int) api.Mark { return api.Mark{Op: api.OpStore, Word: word} }
func Add(word int) api.Mark   { return api.Mark{Op: api.OpAdd, Word: word} }
func CAS(word int) api.Mark   { return api.Mark{Op: api.OpCAS, Word: word} }
