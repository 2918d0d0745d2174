package plays

import (
	"iter"
	"slices"

	"patchbay/api"
)

// Object is what threads ask in plays: what asks it, what tells its words as they stand, what tells whether two of its answers are alike.
type Object[Q, A any] struct {
	Of    func(q Q, g api.Gate) A
	Words func() []uint64
	Same  func(a, b A) bool
}

// Twins tells the plays that EveryAsked tells of threads that ask so of an object, and their calls; each is held against the play by the same order of those that ask its twin, and is the test's end where that has another trace, other calls, or other words behind it. Object and twin are made anew for each play.
func Twins[Q comparable, A any](t Test, turns int, asks [][]Q, object, twin func() Object[Q, A]) iter.Seq2[api.Played, []Done[Q, A]] {
	return func(yield func(api.Played, []Done[Q, A]) bool) {
		t.Helper()
		var o Object[Q, A]
		for p, calls := range EveryAsked(t, turns, asks, func() func(q Q, g api.Gate) A {
			o = object()
			return o.Of
		}) {
			alike(t, p, calls, asks, o, twin())
			if !yield(p, calls) {
				return
			}
		}
	}
}

// AsTwin plays by that order threads that ask so of an object, and answers the play and the calls; it holds them against those of the object's twin as Twins does.
func AsTwin[Q comparable, A any](t Test, order []int, asks [][]Q, object, twin Object[Q, A]) (api.Played, []Done[Q, A]) {
	t.Helper()
	p, calls, e := Asked(order, asks, object.Of)
	if e != api.OK {
		t.Fatalf("a play of %d threads by %d numbers: %v", len(asks), len(order), e)
	}
	alike(t, p, calls, asks, object, twin)
	return p, calls
}

// alike is the test's end, unless threads that ask the twin so, by the order of a play of those that ask the object, play the same.
func alike[Q comparable, A any](t Test, p api.Played, calls []Done[Q, A], asks [][]Q, object, twin Object[Q, A]) {
	t.Helper()
	want, wanted, _ := Asked(Order(p.Trace), asks, twin.Of)
	same := slices.Equal(p.Trace, want.Trace) && SameCalls(calls, wanted, object.Same)
	if words, twins := object.Words(), twin.Words(); !same || !slices.Equal(words, twins) {
		t.Fatalf("by %v: %v, %v, %v; not %v, %v, %v", Order(p.Trace), p.Trace, calls, words, want.Trace, wanted, twins)
	}
}

// SameCalls tells whether the calls of two plays are alike, answers and all.
func SameCalls[Q comparable, A any](a, b []Done[Q, A], same func(a, b A) bool) bool {
	return slices.EqualFunc(a, b, func(a, b Done[Q, A]) bool {
		return a.Thread == b.Thread && a.Ask == b.Ask && same(a.Answer, b.Answer) && a.From == b.From && a.To == b.To
	})
}

// Example is a play that is told: by which order threads ask so; what each thread's last call answers; its trace, as threads and as marks.
type Example[Q, A any] struct {
	Order   []int
	Asks    [][]Q
	Want    []A
	Threads []int
	Marks   []api.Mark
}

// AsTold plays an example, and ends in an error where the play is another one.
func AsTold[Q, A any](t Test, name string, o Object[Q, A], x Example[Q, A]) {
	t.Helper()
	p, calls, e := Asked(x.Order, x.Asks, o.Of)
	if want := Trace(x.Threads, x.Marks...); e != api.OK || !slices.Equal(p.Trace, want) {
		t.Errorf("%s: %v: %v, %v, not %v", name, x.Asks, e, p.Trace, want)
	}
	got := make([]A, len(x.Asks))
	for _, d := range calls {
		got[d.Thread] = d.Answer
	}
	if !slices.EqualFunc(got, x.Want, o.Same) {
		t.Errorf("%s: %v: %v, not %v", name, x.Asks, got, x.Want)
	}
}

// Is asks an object, and ends in an error where it answers otherwise.
func Is[Q, A any](t Test, name string, o Object[Q, A], g api.Gate, q Q, want A) {
	t.Helper()
	if got := o.Of(q, g); !o.Same(got, want) {
		t.Errorf("%s: %v: %v, not %v", name, q, got, want)
	}
}

// Tells asks an object, and ends in an error where it answers otherwise, or tells its gate of other operations.
func Tells[Q, A any](t Test, name string, o Object[Q, A], q Q, want A, marks ...api.Mark) {
	t.Helper()
	// In a play, so that a call that goes round for ever is cut off.
	AsTold(t, name, o, Example[Q, A]{
		Asks: [][]Q{{q}}, Want: []A{want}, Threads: make([]int, len(marks)), Marks: marks,
	})
}

// outcome is what came of threads that asked an object: each thread's answers, and the words behind them.
type outcome[A any] struct {
	answers [][]A
	words   []uint64
}

// among tells whether such an outcome is known.
func (x outcome[A]) among(known []outcome[A], same func(a, b A) bool) bool {
	list := func(a, b []A) bool { return slices.EqualFunc(a, b, same) }
	return slices.ContainsFunc(known, func(y outcome[A]) bool {
		return slices.Equal(x.words, y.words) && slices.EqualFunc(x.answers, y.answers, list)
	})
}

// AsOfAnOrder lets threads that ask so run free, so many times, and ends the test where what comes of a run comes of no order. The object is made anew for each play and each run. The gate of a run's thread is nil, or one that holds nobody up.
func AsOfAnOrder[Q, A any](t Test, runs int, gate func(run, k int) api.Gate, asks [][]Q, object func() Object[Q, A]) {
	t.Helper()
	var known []outcome[A]
	var o Object[Q, A]
	for _, calls := range EveryAsked(t, api.MaxTurns, asks, func() func(q Q, g api.Gate) A {
		o = object()
		return o.Of
	}) {
		answers := make([][]A, len(asks))
		for _, d := range calls {
			answers[d.Thread] = append(answers[d.Thread], d.Answer)
		}
		if x := (outcome[A]{answers, o.Words()}); !x.among(known, o.Same) {
			known = append(known, x)
		}
	}
	for run := range runs {
		o = object()
		answers := make([][]A, len(asks))
		e := Free(len(asks), func(k int) {
			g := gate(run, k)
			for _, q := range asks[k] {
				answers[k] = append(answers[k], o.Of(q, g))
			}
		})
		if x := (outcome[A]{answers, o.Words()}); e != api.OK || !x.among(known, o.Same) {
			t.Fatalf("%v: %v comes of no order", e, x)
		}
	}
}
