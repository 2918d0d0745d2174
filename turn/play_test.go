package turn

import (
	"math"
	"runtime"
	"slices"
	"strconv"
	"sync"
	"sync/atomic"
	"testing"
	"time"

	"patchbay/api"
)

// at is a mark by its word alone.
func at(word int) api.Mark {
	return api.Mark{Op: api.OpLoad, Word: word}
}

// stepping answers a thread that has a step for each of the words.
func stepping(words ...int) func(g api.Gate) {
	return func(g api.Gate) {
		for _, w := range words {
			g.Step(at(w))
		}
	}
}

// forEver is a thread that never ends by itself.
func forEver(g api.Gate) {
	for {
		g.Step(at(0))
	}
}

// nothing is a thread without steps.
func nothing(api.Gate) {}

// many answers n times the same thread.
func many(n int, body func(g api.Gate)) []func(g api.Gate) {
	return slices.Repeat([]func(g api.Gate){body}, n)
}

// played plays, and ends the test where that is refused.
func played(t *testing.T, order []int, threads ...func(g api.Gate)) api.Played {
	t.Helper()
	p, e := Play(order, threads...)
	if e != api.OK {
		t.Fatalf("Play: %v", e)
	}
	return p
}

// told writes a trace as pairs of a thread and a word.
func told(p api.Played) string {
	s := ""
	for _, x := range p.Trace {
		s += " " + strconv.Itoa(x.Thread) + ":" + strconv.Itoa(x.Mark.Word)
	}
	return s
}

// same tells whether two plays are.
func same(a, b api.Played) bool {
	return slices.Equal(a.Trace, b.Trace) && slices.Equal(a.Cut, b.Cut)
}

// threadsOf answers a play's trace as an order.
func threadsOf(p api.Played) []int {
	var order []int
	for _, x := range p.Trace {
		order = append(order, x.Thread)
	}
	return order
}

func TestP21Examples(t *testing.T) {
	for _, x := range []struct {
		order []int
		want  string
	}{
		{nil, " 0:10 1:12 0:11"},
		{[]int{}, " 0:10 1:12 0:11"},
		{[]int{1, 0, 0}, " 1:12 0:10 0:11"},
		{[]int{1, 1, 5, -1, 0}, " 1:12 0:10 0:11"},
		{[]int{0, 0}, " 0:10 0:11 1:12"},
		{[]int{0, 1}, " 0:10 1:12 0:11"},
		{[]int{math.MinInt, math.MaxInt, 2, 1}, " 1:12 0:10 0:11"},
		{[]int{0, 0, 0, 0, 1, 1, 0}, " 0:10 0:11 1:12"},
	} {
		p := played(t, x.order, stepping(10, 11), stepping(12))
		if told(p) != x.want || len(p.Cut) != 0 {
			t.Errorf("Play of %v:%s, cut %v, not%s", x.order, told(p), p.Cut, x.want)
		}
	}
}

func TestP21TheTraceTellsWholeMarks(t *testing.T) {
	marks := []api.Mark{{Op: api.OpCAS, Word: 3}, {}, {Op: api.OpAdd, Word: -1}, {Op: 255, Word: math.MaxInt}}
	p := played(t, nil, func(g api.Gate) {
		for _, m := range marks {
			g.Step(m)
		}
	})
	for i, m := range marks {
		if len(p.Trace) != len(marks) || p.Trace[i] != (api.Turned{Thread: 0, Mark: m}) {
			t.Fatalf("%v, not %v", p.Trace, marks)
		}
	}
}

func TestP21TurnsGoFromStepToStep(t *testing.T) {
	log := ""
	thread := func(name string) func(g api.Gate) {
		return func(g api.Gate) {
			log += name + "0 "
			g.Step(at(1))
			log += name + "1 "
			g.Step(at(2))
			log += name + "2 "
		}
	}
	for _, x := range []struct {
		order []int
		want  string
	}{
		{nil, "a0 b0 c0 a1 b1 c1 a2 b2 c2 "},
		{[]int{2, 0, 0, 1, 2, 1}, "a0 b0 c0 c1 a1 a2 b1 c2 b2 "},
		{[]int{1}, "a0 b0 c0 b1 a1 b2 c1 a2 c2 "},
		{[]int{2, 2, 7, 2, 1}, "a0 b0 c0 c1 c2 b1 a1 b2 a2 "},
	} {
		log = ""
		played(t, x.order, thread("a"), thread("b"), thread("c"))
		if log != x.want {
			t.Errorf("by %v: %s, not %s", x.order, log, x.want)
		}
	}
}

func TestP21RoundsBeginAtTheFirstThread(t *testing.T) {
	p := played(t, []int{0, 1}, stepping(1, 2, 3), stepping(4, 5, 6), stepping(7))
	if want := " 0:1 1:4 0:2 1:5 2:7 0:3 1:6"; told(p) != want {
		t.Errorf("%s, not%s", told(p), want)
	}
}

func TestP21OneWithoutSteps(t *testing.T) {
	began := 0
	idle := func(api.Gate) { began++ }
	p := played(t, []int{0, 0, 1, 2}, idle, stepping(5), idle)
	if told(p) != " 1:5" || began != 2 || len(p.Cut) != 0 {
		t.Errorf("%s, %d began, cut %v", told(p), began, p.Cut)
	}
	p = played(t, nil, idle)
	if len(p.Trace) != 0 || len(p.Cut) != 0 {
		t.Errorf("one alone: %v", p)
	}
}

func TestP21Errors(t *testing.T) {
	began := 0
	body := func(api.Gate) { began++ }
	fits, long := make([]int, api.MaxTurns), make([]int, api.MaxTurns+1)
	with := func(n int) []func(g api.Gate) { return append(many(n, body), nil) }
	for _, x := range []struct {
		name    string
		order   []int
		threads []func(g api.Gate)
		want    api.Errno
	}{
		{"none", nil, nil, api.ErrArg},
		{"none, as an empty list", nil, []func(g api.Gate){}, api.ErrArg},
		{"none, a long order", long, nil, api.ErrArg},
		{"a nil one", nil, with(0), api.ErrNil},
		{"a nil one at the end", nil, with(3), api.ErrNil},
		{"a nil one at the beginning", nil, append([]func(g api.Gate){nil}, many(3, body)...), api.ErrNil},
		{"a nil one among seventeen", nil, with(api.MaxThreads), api.ErrNil},
		{"a nil one, a long order", long, with(1), api.ErrNil},
		{"seventeen", nil, many(api.MaxThreads+1, body), api.ErrLong},
		{"a long order", long, many(1, body), api.ErrLong},
		{"seventeen, a long order", long, many(api.MaxThreads+1, body), api.ErrLong},
	} {
		p, e := Play(x.order, x.threads...)
		if e != x.want || p.Trace != nil || p.Cut != nil {
			t.Errorf("%s: %v, %v, not %v", x.name, p, e, x.want)
		}
	}
	if began != 0 {
		t.Errorf("%d threads ran beside errors", began)
	}
	if _, e := Play(fits, many(api.MaxThreads, body)...); e != api.OK || began != api.MaxThreads {
		t.Errorf("as many as there may be: %v, %d began", e, began)
	}
}

func TestP21AsManyThreadsAsThereMayBe(t *testing.T) {
	p := played(t, []int{15, 16, 15, 3}, many(api.MaxThreads, stepping(1, 2))...)
	if len(p.Trace) != 2*api.MaxThreads || len(p.Cut) != 0 {
		t.Fatalf("%d turns, cut %v", len(p.Trace), p.Cut)
	}
	if got := threadsOf(p)[:6]; !slices.Equal(got, []int{15, 15, 3, 0, 1, 2}) {
		t.Errorf("the first turns: %v", got)
	}
}

func TestP21AsManyTurnsAsThereMayBe(t *testing.T) {
	nobodys := slices.Repeat([]int{9}, api.MaxTurns)
	own := make([]int, api.MaxTurns)
	for _, x := range []struct {
		name  string
		order []int
		steps int
		cut   []int
	}{
		{"just as many", nil, api.MaxTurns, nil},
		{"just as many, by the order", own, api.MaxTurns, nil},
		{"just as many, behind an order of nobody's", nobodys, api.MaxTurns, nil},
		{"one more", nil, api.MaxTurns + 1, []int{0}},
		{"one more, by the order", own, api.MaxTurns + 1, []int{0}},
		{"one more, behind an order of nobody's", nobodys, api.MaxTurns + 1, []int{0}},
	} {
		done := 0
		p := played(t, x.order, func(g api.Gate) {
			for range x.steps {
				g.Step(at(done))
				done++
			}
		})
		if len(p.Trace) != api.MaxTurns || done != api.MaxTurns || !slices.Equal(p.Cut, x.cut) {
			t.Errorf("%s: %d turns, %d done, cut %v", x.name, len(p.Trace), done, p.Cut)
		}
	}
}

func TestP21WhoIsCutOff(t *testing.T) {
	p := played(t, nil, forEver)
	if len(p.Trace) != 16384 || !slices.Equal(p.Cut, []int{0}) {
		t.Errorf("one: %d turns, cut %v", len(p.Trace), p.Cut)
	}
	p = played(t, []int{3, 3}, nothing, forEver, stepping(1, 2), forEver)
	if len(p.Trace) != api.MaxTurns || !slices.Equal(p.Cut, []int{1, 3}) {
		t.Errorf("two of four: %d turns, cut %v", len(p.Trace), p.Cut)
	}
	// One that never had a turn is cut off as well.
	p = played(t, make([]int, api.MaxTurns), forEver, stepping(1))
	if !slices.Equal(p.Cut, []int{0, 1}) {
		t.Errorf("one without a turn: cut %v", p.Cut)
	}
	p = played(t, nil, many(api.MaxThreads, forEver)...)
	if len(p.Trace) != api.MaxTurns || len(p.Cut) != api.MaxThreads || !slices.IsSorted(p.Cut) {
		t.Errorf("all: %d turns, cut %v", len(p.Trace), p.Cut)
	}
}

func TestP21DeferredCallsOfThoseCutOff(t *testing.T) {
	log := ""
	thread := func(name string) func(g api.Gate) {
		return func(g api.Gate) {
			defer func() { log += name + " ended " }()
			defer func() {
				log += name + " leaves "
				g.Step(at(7))
				log += "goes on "
			}()
			forEver(g)
			log += "goes on "
		}
	}
	p := played(t, nil, thread("a"), stepping(1), thread("b"))
	if want := "a leaves a ended b leaves b ended "; log != want {
		t.Errorf("%s, not %s", log, want)
	}
	if len(p.Trace) != api.MaxTurns || !slices.Equal(p.Cut, []int{0, 2}) {
		t.Errorf("%d turns, cut %v", len(p.Trace), p.Cut)
	}
}

func TestP21StepsInDeferredCallsPanic(t *testing.T) {
	panics := 0
	again := func(g api.Gate) {
		defer func() {
			if recover() != nil {
				panics++
			}
		}()
		g.Step(at(8))
	}
	played(t, nil, func(g api.Gate) {
		defer func() {
			for range 3 {
				again(g)
			}
		}()
		forEver(g)
	})
	if panics != 3 {
		t.Errorf("%d steps of three panicked", panics)
	}
}

func TestP21DeferredStepsOfOthersAreSteps(t *testing.T) {
	p := played(t, nil, func(g api.Gate) {
		defer g.Step(at(2))
		g.Step(at(1))
	}, stepping(3))
	if want := " 0:1 1:3 0:2"; told(p) != want || len(p.Cut) != 0 {
		t.Errorf("%s, cut %v, not%s", told(p), p.Cut, want)
	}
}

func TestP21AllHaveEnded(t *testing.T) {
	var ended atomic.Int32
	body := func(steps int) func(g api.Gate) {
		return func(g api.Gate) {
			defer ended.Add(1)
			for i := 0; i != steps; i++ {
				g.Step(at(i))
			}
		}
	}
	for range 20 {
		ended.Store(0)
		played(t, nil, body(0), body(-1), body(3), body(-1), body(1))
		if got := ended.Load(); got != 5 {
			t.Fatalf("%d of 5 have ended", got)
		}
	}
}

func TestP21NoGoroutineIsLeft(t *testing.T) {
	before := runtime.NumGoroutine()
	for range 10 {
		played(t, []int{1}, nothing, forEver, stepping(1, 2), forEver)
	}
	// A goroutine that has ended may be counted for a moment more.
	for range 1000 {
		if runtime.NumGoroutine() <= before {
			return
		}
		time.Sleep(time.Millisecond)
	}
	t.Errorf("%d goroutines ahead, %d behind", before, runtime.NumGoroutine())
}

func TestP21APanicInsideIsCaughtInside(t *testing.T) {
	quits := func(g api.Gate) {
		g.Step(at(1))
		panic("a thread's own")
	}
	leaves := func(g api.Gate) {
		g.Step(at(2))
		runtime.Goexit()
	}
	p := played(t, nil, quits, stepping(3, 4), leaves)
	if want := " 0:1 1:3 2:2 1:4"; told(p) != want || len(p.Cut) != 0 {
		t.Errorf("%s, cut %v, not%s", told(p), p.Cut, want)
	}
}

func TestP21HeldUpByTheOwnGateAlone(t *testing.T) {
	var other, ended api.Gate
	p := played(t, nil,
		func(g api.Gate) { ended = g },
		func(g api.Gate) {
			other = g
			g.Step(at(1))
			g.Step(at(2))
		},
		func(g api.Gate) {
			other.Step(at(9))
			ended.Step(at(9))
			g.Step(at(3))
			other.Step(at(9))
		})
	if want := " 1:1 2:3 1:2"; told(p) != want {
		t.Errorf("%s, not%s", told(p), want)
	}
	other.Step(at(9))
}

func TestP21WhatIsHandedInStaysAsItIs(t *testing.T) {
	room := []int{1, 7, 0, -5, 5}
	order := room[:3]
	p := played(t, order, stepping(1), stepping(2))
	if !slices.Equal(room, []int{1, 7, 0, -5, 5}) {
		t.Errorf("the order: %v", room)
	}
	q := played(t, order, stepping(1), stepping(2))
	p.Trace[0].Thread = 9
	_ = append(p.Trace[:1], api.Turned{})
	if told(q) != " 1:2 0:1" {
		t.Errorf("two answers share: %s", told(q))
	}
}

func TestP21PlaysWithinPlays(t *testing.T) {
	var inner string
	p := played(t, []int{1, 0}, func(g api.Gate) {
		g.Step(at(1))
		inner = told(played(t, []int{1}, stepping(5), stepping(6)))
		g.Step(at(2))
	}, stepping(3))
	if told(p) != " 1:3 0:1 0:2" || inner != " 1:6 0:5" {
		t.Errorf("%s, within it%s", told(p), inner)
	}
}

func TestP22Errors(t *testing.T) {
	var began atomic.Int32
	body := func(api.Gate) { began.Add(1) }
	for _, x := range []struct {
		name    string
		threads []func(g api.Gate)
		want    api.Errno
	}{
		{"none", nil, api.ErrArg},
		{"a nil one", append(many(2, body), nil), api.ErrNil},
		{"a nil one among seventeen", append(many(api.MaxThreads, body), nil), api.ErrNil},
		{"seventeen", many(api.MaxThreads+1, body), api.ErrLong},
	} {
		if e := Free(x.threads...); e != x.want {
			t.Errorf("%s: %v, not %v", x.name, e, x.want)
		}
	}
	if got := began.Load(); got != 0 {
		t.Errorf("%d threads ran beside errors", got)
	}
}

func TestP22AllRunAtATime(t *testing.T) {
	for _, n := range []int{1, 2, api.MaxThreads} {
		var here sync.WaitGroup
		var nils, ended atomic.Int32
		here.Add(n)
		e := Free(many(n, func(g api.Gate) {
			defer ended.Add(1)
			if g == nil {
				nils.Add(1)
			}
			// Nobody comes behind it ahead of the last one.
			here.Done()
			here.Wait()
		})...)
		if e != api.OK || int(nils.Load()) != n || int(ended.Load()) != n {
			t.Errorf("%d threads: %v, %d nil gates, %d ended", n, e, nils.Load(), ended.Load())
		}
	}
}

func TestP22EachRunsOnce(t *testing.T) {
	var ran [api.MaxThreads]int
	var threads []func(g api.Gate)
	for k := range ran {
		threads = append(threads, func(api.Gate) { ran[k]++ })
	}
	if e := Free(threads...); e != api.OK {
		t.Errorf("Free: %v", e)
	}
	for k, n := range ran {
		if n != 1 {
			t.Errorf("thread %d ran %d times", k, n)
		}
	}
}

func TestP22APanicInsideIsCaughtInside(t *testing.T) {
	ran := false
	e := Free(func(api.Gate) { panic("a thread's own") }, func(api.Gate) { runtime.Goexit() }, func(api.Gate) { ran = true })
	if e != api.OK || !ran {
		t.Errorf("%v, the other one ran: %v", e, ran)
	}
}
