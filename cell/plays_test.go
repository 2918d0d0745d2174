package cell

import (
	"slices"
	"strconv"
	"testing"

	"patchbay/api"
	"patchbay/plays"
	"patchbay/turn"
)

// word is what an object's word tells: a number; of a box a value beside it.
type word struct {
	n uint64
	v string
}

// step is an operation as the chapter's table says it.
type step struct {
	op api.OpKind
	do func(w *word) after
}

// after is what is behind an operation: the call's next one, or none and what the call answers; whether it was a CAS that swapped.
type after struct {
	next    *step
	answer  string
	swapped bool
}

// object is one of the three; the others are nil.
type object struct {
	c *Counter
	f *Flag
	b *Box[string]
}

// call is a call of an object, and its first step.
type call struct {
	ask   func(o object, g api.Gate) string
	first *step
}

// say writes an answer.
func say(n uint64, ok bool, e api.Errno) string {
	return strconv.FormatUint(n, 10) + " " + strconv.FormatBool(ok) + " " + e.Error()
}

// once is the steps of a call of one operation.
func once(op api.OpKind, do func(w *word) string) *step {
	return &step{op, func(w *word) after { return after{answer: do(w)} }}
}

// swaps is the steps of a call that loads, and then compares and swaps: next answers what is to stand there, or what the call answers without; done what it answers when it has swapped. What it does when it has not swapped is the first step again, if lost is empty, else it answers lost.
func swaps(next func(w word) (word, string), done func(to word) string, lost string) *step {
	load := &step{op: api.OpLoad}
	load.do = func(w *word) after {
		from := *w
		to, answer := next(from)
		if answer != "" {
			return after{answer: answer}
		}
		return after{next: &step{api.OpCAS, func(w *word) after {
			if w.n == from.n {
				*w = to
				return after{answer: done(to), swapped: true}
			}
			if lost != "" {
				return after{answer: lost}
			}
			return after{next: load}
		}}}
	}
	return load
}

func doAdd(n uint64) call {
	return call{func(o object, g api.Gate) string {
		v, e := o.c.Add(g, n)
		return say(v, true, e)
	}, once(api.OpAdd, func(w *word) string {
		w.n += n
		return say(w.n, true, api.OK)
	})}
}

func doGet() call {
	return call{func(o object, g api.Gate) string {
		v, e := o.c.Get(g)
		return say(v, true, e)
	}, once(api.OpLoad, func(w *word) string { return say(w.n, true, api.OK) })}
}

func doUp(n, most uint64) call {
	return call{func(o object, g api.Gate) string {
		v, ok, e := o.c.Up(g, n, most)
		return say(v, ok, e)
	}, swaps(func(w word) (word, string) {
		sum := number(w.n)
		if sum.Add(sum, number(n)).Cmp(number(most)) > 0 {
			return word{}, say(w.n, false, api.OK)
		}
		return word{n: sum.Uint64()}, ""
	}, func(to word) string { return say(to.n, true, api.OK) }, "")}
}

func doDown(n uint64) call {
	return call{func(o object, g api.Gate) string {
		v, ok, e := o.c.Down(g, n)
		return say(v, ok, e)
	}, swaps(func(w word) (word, string) {
		if w.n < n {
			return word{}, say(w.n, false, api.OK)
		}
		return word{n: w.n - n}, ""
	}, func(to word) string { return say(to.n, true, api.OK) }, "")}
}

func doMax(v uint64) call {
	return call{func(o object, g api.Gate) string {
		ok, e := o.c.Max(g, v)
		return say(0, ok, e)
	}, swaps(func(w word) (word, string) {
		if v <= w.n {
			return word{}, say(0, false, api.OK)
		}
		return word{n: v}, ""
	}, func(word) string { return say(0, true, api.OK) }, "")}
}

// doFlag is a call of a flag: its operation, what it puts into the word.
func doFlag(ask func(f *Flag, g api.Gate) (bool, api.Errno), op api.OpKind, answer func(w *word) bool) call {
	return call{func(o object, g api.Gate) string {
		ok, e := ask(o.f, g)
		return say(0, ok, e)
	}, once(op, func(w *word) string { return say(0, answer(w), api.OK) })}
}

func doIsSet() call {
	return doFlag((*Flag).Get, api.OpLoad, func(w *word) bool { return w.n == 1 })
}

func doSet() call {
	return doFlag((*Flag).Set, api.OpSwap, func(w *word) bool {
		was := w.n
		w.n = 1
		return was == 0
	})
}

func doClear() call {
	return doFlag((*Flag).Clear, api.OpSwap, func(w *word) bool {
		was := w.n
		w.n = 0
		return was == 1
	})
}

func doLook() call {
	return call{func(o object, g api.Gate) string {
		v, n, e := o.b.Get(g)
		return v + say(n, true, e)
	}, once(api.OpLoad, func(w *word) string { return w.v + say(w.n, true, api.OK) })}
}

func doPut(v string) call {
	return call{func(o object, g api.Gate) string {
		n, e := o.b.Put(g, v)
		return say(n, true, e)
	}, swaps(func(w word) (word, string) { return word{w.n + 1, v}, "" },
		func(to word) string { return say(to.n, true, api.OK) }, "")}
}

func doTry(number uint64, v string) call {
	return call{func(o object, g api.Gate) string {
		ok, e := o.b.Try(g, number, v)
		return say(0, ok, e)
	}, swaps(func(w word) (word, string) {
		if w.n != number {
			return word{}, say(0, false, api.OK)
		}
		return word{number + 1, v}, ""
	}, func(word) string { return say(0, true, api.OK) }, say(0, false, api.OK))}
}

// walker is a thread that does its calls as the table says, and what is counted of the one that is under way.
type walker struct {
	calls   []call
	now     *step
	answers []string
	ops     int // how many operations it had
	others  int // how many of the others' operations meanwhile changed the word
	failed  int // how many of all its CAS did not swap
}

// walk does the operations of a trace as the table says, one by one, and answers what the word tells then.
func walk(t *testing.T, w word, walkers []*walker, trace []api.Turned) word {
	t.Helper()
	for _, x := range trace {
		me := walkers[x.Thread]
		if me.now == nil {
			me.now = me.calls[len(me.answers)].first
		}
		if want := (api.Mark{Op: me.now.op, Word: 0}); x.Mark != want {
			t.Fatalf("by %v: thread %d tells %v, not %v", plays.Order(trace), x.Thread, x.Mark, want)
		}
		me.ops++
		then := me.now.do(&w)
		if me.now.op == api.OpCAS && !then.swapped {
			me.failed++
		}
		for _, other := range walkers {
			// P3.5 speaks of a CAS that swaps; but an Add, too, is why a CAS of another one does not swap.
			if other != me && (then.swapped || me.now.op == api.OpAdd) {
				other.others++
			}
		}
		if me.now = then.next; me.now == nil {
			if me.ops > 2*me.others+2 {
				t.Errorf("by %v: a call of thread %d had %d operations, and %d of the others' changed the word", plays.Order(trace), x.Thread, me.ops, me.others)
			}
			me.answers, me.ops, me.others = append(me.answers, then.answer), 0, 0
		}
	}
	return w
}

// byAllOrders holds what threads with these calls answer, by every order, against the table, and tells how often a CAS did not swap.
func byAllOrders(t *testing.T, begin func() (object, word), threads ...[]call) int {
	t.Helper()
	var o object
	var start word
	var answers [][]string
	failed := 0
	everyPlay(t, func() []func(g api.Gate) {
		o, start = begin()
		answers = make([][]string, len(threads))
		var bodies []func(g api.Gate)
		for k, calls := range threads {
			bodies = append(bodies, func(g api.Gate) {
				for _, c := range calls {
					answers[k] = append(answers[k], c.ask(o, g))
				}
			})
		}
		return bodies
	}, func(p api.Played) {
		var walkers []*walker
		for _, calls := range threads {
			walkers = append(walkers, &walker{calls: calls})
		}
		end := walk(t, start, walkers, p.Trace)
		for k, x := range walkers {
			if !slices.Equal(answers[k], x.answers) {
				t.Errorf("by %v: thread %d: %q, not %q", plays.Order(p.Trace), k, answers[k], x.answers)
			}
			failed += x.failed
		}
		if got := whatStands(o); got != end {
			t.Errorf("by %v: at the end %v, not %v", plays.Order(p.Trace), got, end)
		}
	})
	return failed
}

// whatStands answers what an object's word tells.
func whatStands(o object) word {
	switch {
	case o.c != nil:
		n, _ := o.c.Get(nil)
		return word{n: n}
	case o.f != nil:
		if set, _ := o.f.Get(nil); set {
			return word{n: 1}
		}
		return word{}
	}
	v, n, _ := o.b.Get(nil)
	return word{n, v}
}

// counting, flagging, boxing answer what begins a play with a new object.
func counting(v uint64) func() (object, word) {
	return func() (object, word) { return object{c: NewCounter(v)}, word{n: v} }
}

func flagging() (object, word) {
	return object{f: NewFlag()}, word{}
}

func boxing() (object, word) {
	return object{b: NewBox("a")}, word{v: "a"}
}

func TestP31CountersByAllOrders(t *testing.T) {
	for i, x := range []struct {
		v       uint64
		threads [][]call
	}{
		{0, [][]call{{doUp(1, 9)}, {doUp(1, 9)}}},
		{0, [][]call{{doUp(1, 1), doGet()}, {doUp(1, 1), doDown(1)}}},
		{8, [][]call{{doDown(5), doUp(3, 9)}, {doUp(1, 9), doDown(4)}}},
		{5, [][]call{{doUp(0, 5)}, {doDown(1), doUp(1, 5)}, {doGet()}}},
		{3, [][]call{{doMax(7), doMax(2)}, {doMax(5), doMax(9)}}},
		{3, [][]call{{doMax(7)}, {doMax(5)}, {doMax(6)}}},
		{0, [][]call{{doUp(2, 4)}, {doUp(2, 4)}, {doUp(2, 4)}}},
		{4, [][]call{{doDown(2)}, {doDown(3)}, {doUp(1, 4)}}},
		{top, [][]call{{doDown(top)}, {doUp(top, top)}, {doMax(1)}}},
		{0, [][]call{{doUp(1, 3)}, {doAdd(2), doAdd(top)}, {doDown(2)}}},
		{top, [][]call{{doAdd(1), doGet()}, {doMax(5), doDown(2)}}},
	} {
		if n := byAllOrders(t, counting(x.v), x.threads...); n == 0 {
			t.Errorf("counter %d: each CAS swapped", i)
		}
	}
}

func TestP31FlagsByAllOrders(t *testing.T) {
	byAllOrders(t, flagging, []call{doSet(), doClear(), doIsSet()}, []call{doClear(), doSet()}, []call{doSet(), doSet()})
	byAllOrders(t, flagging, []call{doSet()}, []call{doSet()}, []call{doClear()}, []call{doIsSet()})
}

func TestP31BoxesByAllOrders(t *testing.T) {
	for i, threads := range [][][]call{
		{{doPut("b")}, {doPut("c")}, {doPut("d")}},
		{{doPut("b"), doLook()}, {doTry(0, "c"), doTry(1, "d")}},
		{{doTry(0, "b")}, {doTry(0, "c")}, {doTry(1, "d")}, {doLook()}},
		{{doPut("a"), doTry(1, "b")}, {doPut("a"), doTry(2, "a")}},
		{{doPut("b"), doPut("a")}, {doTry(0, "c"), doLook()}, {doTry(2, "d")}},
	} {
		if n := byAllOrders(t, boxing, threads...); n == 0 && i != 2 {
			t.Errorf("box %d: each CAS of a Put swapped", i)
		}
	}
}

func TestP31ATryThatComesTooLate(t *testing.T) {
	b := NewBox("a")
	var first, second bool
	p, _ := turn.Play([]int{0, 1, 1, 0},
		func(g api.Gate) { first, _ = b.Try(g, 0, "b") },
		func(g api.Gate) { second, _ = b.Try(g, 0, "c") })
	want := []api.Turned{
		{Thread: 0, Mark: api.Mark{Op: api.OpLoad}}, {Thread: 1, Mark: api.Mark{Op: api.OpLoad}},
		{Thread: 1, Mark: api.Mark{Op: api.OpCAS}}, {Thread: 0, Mark: api.Mark{Op: api.OpCAS}},
	}
	if !slices.Equal(p.Trace, want) || first || !second {
		t.Errorf("%v: %v, %v", p.Trace, first, second)
	}
	boxIs(t, b, "c", 1)
}

func TestP31TwoUpsByAnOrder(t *testing.T) {
	// The chapter's example: the first one's CAS does not swap.
	c := NewCounter(0)
	var sums [2]uint64
	up := func(k int) func(g api.Gate) {
		return func(g api.Gate) { sums[k], _, _ = c.Up(g, 1, 9) }
	}
	p, _ := turn.Play([]int{0, 1, 1, 0, 0, 0}, up(0), up(1))
	want := []api.Turned{
		{Thread: 0, Mark: api.Mark{Op: api.OpLoad}}, {Thread: 1, Mark: api.Mark{Op: api.OpLoad}},
		{Thread: 1, Mark: api.Mark{Op: api.OpCAS}}, {Thread: 0, Mark: api.Mark{Op: api.OpCAS}},
		{Thread: 0, Mark: api.Mark{Op: api.OpLoad}}, {Thread: 0, Mark: api.Mark{Op: api.OpCAS}},
	}
	if !slices.Equal(p.Trace, want) || sums != [2]uint64{2, 1} {
		t.Errorf("%v: %v", p.Trace, sums)
	}
}

func TestP31WhatIsCutOffIsNotDone(t *testing.T) {
	c, f, b := NewCounter(5), NewFlag(), NewBox("a")
	for _, x := range []struct {
		name string
		ops  int
		do   func(g api.Gate)
	}{
		{"Add", 1, func(g api.Gate) { c.Add(g, 1) }},
		{"Up", 2, func(g api.Gate) { c.Up(g, 1, 9) }},
		{"Down", 2, func(g api.Gate) { c.Down(g, 1) }},
		{"Max", 2, func(g api.Gate) { c.Max(g, 9) }},
		{"Set", 1, func(g api.Gate) { f.Set(g) }},
		{"Put", 2, func(g api.Gate) { b.Put(g, "b") }},
		{"Try", 2, func(g api.Gate) { b.Try(g, 0, "b") }},
	} {
		if !plays.CutOff(x.ops-1, x.do) {
			t.Errorf("%s is not cut off ahead of its last operation", x.name)
		}
	}
	counterIs(t, c, 5)
	boxIs(t, b, "a", 0)
	if set, _ := f.Get(nil); set {
		t.Errorf("a flag is set by one that was cut off")
	}
}
