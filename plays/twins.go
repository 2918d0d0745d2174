package plays

import (
	"iter"
	"slices"

	"patchbay/api"
)

// Object is what threads ask in plays: what asks it, what tells its words as they stand, what tells whether two of its answers are alike.
type Object[Q, A any] struct {
	Of    func(q Q, g api.Gate) A
	Words func() []uint64
	Same  func(a, b A) bool
}

// Twins tells the plays that EveryAsked tells of threads that ask so of an object, and their calls; each is held against the play by the same order of those that ask its twin, and is the test's end where that has another trace, other calls, or other words behind it. Object and twin are made anew for each play.
func Twins[Q comparable, A any](t Test, turns int, asks [][]Q, object, twin func() Object[Q, A]) iter.Seq2[api.Played, []Done[Q, A]] {
	return func(yield func(api.Played, []Done[Q, A]) bool) {
		t.Helper()
		var o Object[Q, A]
		for p, calls := range EveryAsked(t, turns, asks, func() func(q Q, g api.Gate) A {
			o = object()
			return o.Of
		}) {
			w := twin()
			want, wanted, _ := Asked(Order(p.Trace), asks, w.Of)
			if !slices.Equal(p.Trace, want.Trace) || !SameCalls(calls, wanted, o.Same) || !slices.Equal(o.Words(), w.Words()) {
				t.Fatalf("by %v: %v, %v, %v; not %v, %v, %v", Order(p.Trace), p.Trace, calls, o.Words(), want.Trace, wanted, w.Words())
			}
			if !yield(p, calls) {
				return
			}
		}
	}
}

// SameCalls tells whether the calls of two plays are alike, answers and all.
func SameCalls[Q comparable, A any](a, b []Done[Q, A], same func(a, b A) bool) bool {
	return slices.EqualFunc(a, b, func(a, b Done[Q, A]) bool {
		return a.Thread == b.Thread && a.Ask == b.Ask && same(a.Answer, b.Answer) && a.From == b.From && a.To == b.To
	})
}

// Example is a play that is told: by which order threads ask so; what each thread's last call answers; its trace, as threads and as marks.
type Example[Q, A any] struct {
	Order   []int
	Asks    [][]Q
	Want    []A
	Threads []int
	Marks   []api.Mark
}

// AsTold plays an example, and ends in an error where the play is another one.
func AsTold[Q, A any](t Test, name string, o Object[Q, A], x Example[Q, A]) {
	t.Helper()
	p, calls, e := Asked(x.Order, x.Asks, o.Of)
	if want := Trace(x.Threads, x.Marks...); e != api.OK || !slices.Equal(p.Trace, want) {
		t.Errorf("%s: %v, %v, not %v", name, e, p.Trace, want)
	}
	got := make([]A, len(x.Asks))
	for _, d := range calls {
		got[d.Thread] = d.Answer
	}
	if !slices.EqualFunc(got, x.Want, o.Same) {
		t.Errorf("%s: %v, not %v", name, got, x.Want)
	}
}

// outcome is what came of threads that asked an object: each thread's answers, and the words behind them.
type outcome[A any] struct {
	answers [][]A
	words   []uint64
}

// among tells whether such an outcome is known.
func (x outcome[A]) among(known []outcome[A], same func(a, b A) bool) bool {
	list := func(a, b []A) bool { return slices.EqualFunc(a, b, same) }
	return slices.ContainsFunc(known, func(y outcome[A]) bool {
		return slices.Equal(x.words, y.words) && slices.EqualFunc(x.answers, y.answers, list)
	})
}

// AsOfAnOrder lets threads that ask so run free, so many times, and ends the test where what comes of a run comes of no order. The object is made anew for each play and each run. The gate of a run's thread is nil, or one that holds nobody up.
func AsOfAnOrder[Q, A any](t Test, runs int, gate func(run, k int) api.Gate, asks [][]Q, object func() Object[Q, A]) {
	t.Helper()
	var known []outcome[A]
	var o Object[Q, A]
	for _, calls := range EveryAsked(t, api.MaxTurns, asks, func() func(q Q, g api.Gate) A {
		o = object()
		return o.Of
	}) {
		answers := make([][]A, len(asks))
		for _, d := range calls {
			answers[d.Thread] = append(answers[d.Thread], d.Answer)
		}
		if x := (outcome[A]{answers, o.Words()}); !x.among(known, o.Same) {
			known = append(known, x)
		}
	}
	for run := range runs {
		o = object()
		answers := make([][]A, len(asks))
		e := Free(len(asks), func(k int) {
			g := gate(run, k)
			for _, q := range asks[k] {
				answers[k] = append(answers[k], o.Of(q, g))
			}
		})
		if x := (outcome[A]{answers, o.Words()}); e != api.OK || !x.among(known, o.Same) {
			t.Fatalf("%v: %v comes of no order", e, x)
		}
	}
}
