package plays

import (
	"runtime"
	"slices"
	"sync/atomic"
	"testing"

	"patchbay/api"
	"patchbay/turn"
)

// faults are what may be wrong with a sum: who adds up to that sum, or adds freely, is answered so much more, leaves so much more there, and tells its gate of a higher word.
type faults struct {
	sum           uint64
	free          bool
	answer, store uint64
	word          int
}

// adding is an object of one word: who asks adds a number to it by a load and a store, and is answered the sum.
func adding(f faults) Object[uint64, uint64] {
	var word atomic.Uint64
	of := func(n uint64, g api.Gate) uint64 {
		tell(g, 0)
		v, wrong := word.Load(), faults{}
		if v+n == f.sum || g == nil && f.free {
			wrong = f
		}
		tell(g, wrong.word)
		word.Store(v + n + wrong.store)
		return v + n + wrong.answer
	}
	return Object[uint64, uint64]{of, func() []uint64 { return []uint64{word.Load()} }, func(a, b uint64) bool { return a == b }}
}

// tell tells a gate of a load; who has none lets others run.
func tell(g api.Gate, word int) {
	if g == nil {
		runtime.Gosched()
		return
	}
	g.Step(Load(word))
}

// of answers what makes adding ones.
func of(f faults) func() Object[uint64, uint64] {
	return func() Object[uint64, uint64] { return adding(f) }
}

func TestTwins(t *testing.T) {
	asks := [][]uint64{{1, 4}, {2}}
	var orders [][]int
	for p, calls := range Twins(t, api.MaxTurns, asks, of(faults{}), of(faults{})) {
		orders = append(orders, Order(p.Trace))
		if _, want, _ := Asked(Order(p.Trace), asks, adding(faults{}).Of); !slices.Equal(calls, want) {
			t.Errorf("by %v: %v, not %v", Order(p.Trace), calls, want)
		}
	}
	slices.SortFunc(orders, slices.Compare)
	if want := ordersOf(api.MaxTurns, stepping(4, 2)); !equal(orders, want) {
		t.Errorf("%v, not %v", orders, want)
	}
}

func TestTwinsLeftEarly(t *testing.T) {
	n := 0
	for range Twins(t, api.MaxTurns, [][]uint64{{1}, {2}}, of(faults{}), of(faults{})) {
		if n++; n == 3 {
			break
		}
	}
	if n != 3 {
		t.Errorf("%d plays", n)
	}
}

func TestTwinsThatAreNotAlike(t *testing.T) {
	for name, f := range map[string]faults{
		"another answer":  {sum: 7, answer: 1},
		"another word":    {sum: 7, store: 1},
		"another trace":   {sum: 7, word: 1},
		"at an early sum": {sum: 3, answer: 1},
	} {
		for i, twin := range []faults{f, {}} {
			object := []faults{{}, f}[i]
			texts, ended := ending(func(t Test) {
				for range Twins(t, api.MaxTurns, [][]uint64{{1, 4}, {2}}, of(object), of(twin)) {
				}
			})
			if !ended || len(texts) != 1 {
				t.Errorf("%s: told %q, ended: %v", name, texts, ended)
			}
		}
	}
}

func TestAsTwin(t *testing.T) {
	asks := [][]uint64{{1, 4}, {2}}
	order := []int{0, 1, 0, 0, 1}
	want, wanted, _ := Asked(order, asks, adding(faults{}).Of)
	p, calls := AsTwin(t, order, asks, adding(faults{}), adding(faults{}))
	if !slices.Equal(p.Trace, want.Trace) || !slices.Equal(calls, wanted) {
		t.Errorf("%v, %v, not %v, %v", p.Trace, calls, want.Trace, wanted)
	}
	// One that is cut off is so for the twin, too.
	long := [][]uint64{slices.Repeat([]uint64{1}, api.MaxTurns), {2}}
	if p, calls := AsTwin(t, order, long, adding(faults{}), adding(faults{})); len(p.Trace) != api.MaxTurns || !slices.Equal(p.Cut, []int{0}) || len(calls) != api.MaxTurns/2 {
		t.Errorf("%d turns, cut %v: %d calls", len(p.Trace), p.Cut, len(calls))
	}
}

func TestAsTwinThatIsNotAlike(t *testing.T) {
	for name, f := range map[string]faults{
		"another answer": {sum: 7, answer: 1},
		"another word":   {sum: 7, store: 1},
		"another trace":  {sum: 7, word: 1},
	} {
		for i, twin := range []faults{f, {}} {
			object := []faults{{}, f}[i]
			texts, ended := ending(func(t Test) { AsTwin(t, []int{1, 1}, [][]uint64{{1, 4}, {2}}, adding(object), adding(twin)) })
			if !ended || len(texts) != 1 {
				t.Errorf("%s: told %q, ended: %v", name, texts, ended)
			}
		}
	}
	if texts, ended := ending(func(t Test) { AsTwin(t, nil, nil, adding(faults{}), adding(faults{})) }); !ended || len(texts) != 1 {
		t.Errorf("a play of no threads: told %q, ended: %v", texts, ended)
	}
}

func TestSameCalls(t *testing.T) {
	d := Done[int, int]{1, 2, 3, 4, 5}
	for i, x := range []Done[int, int]{{1, 2, 3, 4, 5}, {0, 2, 3, 4, 5}, {1, 0, 3, 4, 5}, {1, 2, 0, 4, 5}, {1, 2, 3, 0, 5}, {1, 2, 3, 4, 0}} {
		if got := SameCalls([]called{d}, []called{x}, func(a, b int) bool { return a == b }); got != (i == 0) {
			t.Errorf("%v, %v: %v", d, x, got)
		}
	}
	if SameCalls([]called{d}, nil, nil) {
		t.Error("one call, and none")
	}
}

func TestAsTold(t *testing.T) {
	x := Example[uint64, uint64]{
		Order:   []int{0, 1, 1},
		Asks:    [][]uint64{{1}, {2, 4}},
		Want:    []uint64{1, 5},
		Threads: []int{0, 1, 1, 0, 1, 1},
		Marks:   slices.Repeat([]api.Mark{Load(0)}, 6),
	}
	AsTold(t, "as told", adding(faults{}), x)
	for name, change := range map[string]func(x *Example[uint64, uint64]){
		"another answer":      func(x *Example[uint64, uint64]) { x.Want = []uint64{1, 6} },
		"another first one":   func(x *Example[uint64, uint64]) { x.Want = []uint64{2, 5} },
		"no answer":           func(x *Example[uint64, uint64]) { x.Want = x.Want[:1] },
		"another trace":       func(x *Example[uint64, uint64]) { x.Threads = []int{0, 1, 0, 1, 1, 1} },
		"another mark":        func(x *Example[uint64, uint64]) { x.Marks = append(x.Marks[:5:5], Load(1)) },
		"one that is too few": func(x *Example[uint64, uint64]) { x.Marks = x.Marks[:5] },
	} {
		y := x
		change(&y)
		if texts, ended := ending(func(t Test) { AsTold(t, name, adding(faults{}), y) }); len(texts) != 1 || ended {
			t.Errorf("%s: told %q, ended: %v", name, texts, ended)
		}
	}
	if texts, _ := ending(func(t Test) { AsTold(t, "none", adding(faults{}), Example[uint64, uint64]{}) }); len(texts) != 1 {
		t.Errorf("a play of no threads: told %q", texts)
	}
}

func TestIs(t *testing.T) {
	x := adding(faults{sum: 7, answer: 1})
	Is(t, "as it is", x, nil, 5, 5)
	n := turn.NewNotes()
	if texts, ended := ending(func(t Test) { Is(t, "another answer", x, n, 2, 7) }); len(texts) != 1 || ended || len(n.Marks()) != 2 {
		t.Errorf("told %q, ended: %v; its gate %v", texts, ended, n.Marks())
	}
}

func TestTells(t *testing.T) {
	marks := []api.Mark{Load(0), Load(0)}
	Tells(t, "as it is", adding(faults{}), 5, 5, marks...)
	for name, x := range map[string]struct {
		f     faults
		want  uint64
		marks []api.Mark
	}{
		"another answer":      {faults{}, 6, marks},
		"another mark":        {faults{sum: 5, word: 1}, 5, marks},
		"one that is too few": {faults{}, 5, marks[:1]},
		"none":                {faults{}, 5, nil},
	} {
		if texts, ended := ending(func(t Test) { Tells(t, name, adding(x.f), 5, x.want, x.marks...) }); len(texts) != 1 || ended {
			t.Errorf("%s: told %q, ended: %v", name, texts, ended)
		}
	}
	// One that never ends is cut off.
	endless := adding(faults{})
	endless.Of = func(n uint64, g api.Gate) uint64 {
		for {
			g.Step(Load(0))
		}
	}
	if texts, ended := ending(func(t Test) { Tells(t, "one that never ends", endless, 5, 5, marks...) }); len(texts) == 0 || ended {
		t.Errorf("one that never ends: told %d texts, ended: %v", len(texts), ended)
	}
}

// standing is a gate that counts what it is told, and holds nobody up.
type standing struct{ told *atomic.Uint64 }

func (s standing) Step(api.Mark) { s.told.Add(1) }

func TestAsOfAnOrder(t *testing.T) {
	const runs = 200
	for _, asks := range [][][]uint64{{{1}, {2}}, {{1, 4}, {2}}, {{1}, {2}, {4}}} {
		var told atomic.Uint64
		AsOfAnOrder(t, runs, func(run, k int) api.Gate {
			if run%2 == 0 || k == 0 {
				return nil
			}
			return standing{&told}
		}, asks, of(faults{}))
		// All threads but the first one have a call of two operations.
		if want := uint64(runs / 2 * 2 * (len(asks) - 1)); told.Load() != want {
			t.Errorf("gates were told %d times, not %d", told.Load(), want)
		}
	}
}

func TestAsOfAnOrderFindsWhatComesOfNone(t *testing.T) {
	for name, f := range map[string]faults{
		"another answer": {free: true, answer: 8},
		"another end":    {free: true, store: 8},
	} {
		texts, ended := ending(func(t Test) {
			AsOfAnOrder(t, 1, func(int, int) api.Gate { return nil }, [][]uint64{{1}, {2}}, of(f))
		})
		if !ended || len(texts) != 1 {
			t.Errorf("%s: told %q, ended: %v", name, texts, ended)
		}
	}
}
