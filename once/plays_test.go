package once

import (
	"slices"
	"testing"

	"patchbay/api"
	"patchbay/plays"
	"patchbay/turn"
)

// object is a Once (its number is 0), a Table, or the twin of one.
type object interface {
	get(g api.Gate, i int) answer
	made() []int
}

// single and several are the package's own.
type single struct{ o *Once[int] }

func (s single) get(g api.Gate, i int) answer { return answers(s.o.Get(g)) }

func (s single) made() []int { return make([]int, s.o.Made()) }

type several struct{ x *Table[int] }

func (s several) get(g api.Gate, i int) answer { return answers(s.x.Get(g, i)) }

func (s several) made() []int { return s.x.Made() }

// numbered is a make that is handed a number.
type numbered func(i int) (int, api.Errno)

func newSingle(calls numbered) object {
	return single{New(func() (int, api.Errno) { return calls(0) })}
}

func newSeveral(n int) func(calls numbered) object {
	return func(calls numbered) object {
		x, _ := NewTable(n, calls)
		return several{x}
	}
}

// twin does what the chapter's steps say, by one thread at a time.
type twin struct {
	ways   []way
	states []int
	calls  numbered
	round  int // how many Loads of the state 1 there were
	lost   int // how many CAS that did not swap
}

func newTwin(ways []way, calls numbered) *twin {
	return &twin{ways: ways, states: make([]int, len(ways)), calls: calls}
}

func (w *twin) get(g api.Gate, i int) answer {
	if g == nil {
		// In a play make has ended wherever another thread has its turn: a free Get need not wait.
		if w.states[i] == 0 {
			w.fill(i)
			w.states[i] = 2
		}
		return w.ways[i].want
	}
	for {
		g.Step(api.Mark{Op: api.OpLoad, Word: i})
		if w.states[i] == 1 {
			w.round++
			continue
		}
		if w.states[i] == 2 {
			return w.ways[i].want
		}
		g.Step(api.Mark{Op: api.OpCAS, Word: i})
		if w.states[i] != 0 {
			w.lost++
			continue
		}
		w.states[i] = 1
		w.fill(i)
		g.Step(api.Mark{Op: api.OpStore, Word: i})
		w.states[i] = 2 // or 3, or 4: what it answers is the way's
		return w.ways[i].want
	}
}

// fill calls make, whatever comes of it.
func (w *twin) fill(i int) {
	defer func() { recover() }()
	w.calls(i)
}

func (w *twin) made() []int {
	var numbers []int
	for i, state := range w.states {
		if state != 0 {
			numbers = append(numbers, i)
		}
	}
	return numbers
}

// ask is a Get of a thread: of which number; free, behind a step of the thread's own.
type ask struct {
	i    int
	free bool
}

// under and freely are Gets of these numbers.
func under(numbers ...int) []ask {
	var list []ask
	for _, i := range numbers {
		list = append(list, ask{i, false})
	}
	return list
}

func freely(numbers ...int) []ask {
	var list []ask
	for _, i := range numbers {
		list = append(list, ask{i, true})
	}
	return list
}

// record is what comes of a play: what each thread was answered; of each number behind how many operations make was called; what was made then, and at each answer.
type record struct {
	answers [][]answer
	calls   [][]int
	made    [][]int
	ops     int
}

// begin answers the threads that ask so, and the record that they write.
func begin(ways []way, asks [][]ask, build func(calls numbered) object) (*record, []func(g api.Gate)) {
	r := &record{answers: make([][]answer, len(asks)), calls: make([][]int, len(ways))}
	o := build(func(i int) (int, api.Errno) {
		r.calls[i] = append(r.calls[i], r.ops)
		return ways[i].make()
	})
	var threads []func(g api.Gate)
	for k, list := range asks {
		threads = append(threads, func(g api.Gate) {
			var noting api.Gate = gate(func(m api.Mark) {
				r.made = append(r.made, o.made())
				g.Step(m)
				r.ops++
			})
			for _, a := range list {
				h := noting
				if a.free {
					noting.Step(api.Mark{Op: api.OpSwap, Word: 99})
					h = nil
				}
				r.answers[k] = append(r.answers[k], o.get(h, a.i))
				r.made = append(r.made, o.made())
			}
		})
	}
	return r, threads
}

// same tells whether two records are the same.
func (r *record) same(other *record) bool {
	return slices.EqualFunc(r.answers, other.answers, slices.Equal) &&
		slices.EqualFunc(r.calls, other.calls, slices.Equal) &&
		slices.EqualFunc(r.made, other.made, slices.Equal)
}

// byAllOrders holds what threads that ask so are answered, by all orders of so many first turns, against the twin; it answers how often a thread went round, and how often a CAS did not swap.
func byAllOrders(t *testing.T, turns int, ways []way, build func(calls numbered) object, asks ...[]ask) (round, lost int) {
	t.Helper()
	var got *record
	for p := range plays.Whole(t, turns, func() (threads []func(g api.Gate)) {
		got, threads = begin(ways, asks, build)
		return threads
	}) {
		var w *twin
		want, threads := begin(ways, asks, func(calls numbered) object {
			w = newTwin(ways, calls)
			return w
		})
		q, _ := turn.Play(plays.Order(p.Trace), threads...)
		if !slices.Equal(p.Trace, q.Trace) || !got.same(want) {
			t.Fatalf("by %v: %v, %v; not %v, %v", plays.Order(p.Trace), p.Trace, got, q.Trace, want)
		}
		onceAndAlike(t, ways, asks, got)
		round, lost = round+w.round, lost+w.lost
	}
	return round, lost
}

// onceAndAlike holds a record against P4.5's words: make is called once, if anybody asks, and all answers are alike.
func onceAndAlike(t *testing.T, ways []way, asks [][]ask, r *record) {
	t.Helper()
	asked := make([]bool, len(ways))
	for k, list := range asks {
		for n, a := range list {
			asked[a.i] = true
			gets(t, ways[a.i].name, r.answers[k][n], ways[a.i].want)
		}
	}
	for i, w := range ways {
		if called := len(r.calls[i]); called > 1 || asked[i] != (called == 1) {
			t.Errorf("%s: make was called behind %v operations", w.name, r.calls[i])
		}
	}
}

func TestP45OncesByAllOrders(t *testing.T) {
	for _, w := range threeWays() {
		for i, x := range []struct {
			turns int
			asks  [][]ask
		}{
			{14, [][]ask{under(0), under(0)}},
			{10, [][]ask{under(0, 0), under(0, 0)}},
			{8, [][]ask{under(0), under(0), under(0)}},
			{6, [][]ask{under(0), under(0), under(0), under(0)}},
		} {
			if round, lost := byAllOrders(t, x.turns, []way{w}, newSingle, x.asks...); round == 0 || lost == 0 {
				t.Errorf("%s, %d: went round %d times, lost %d times", w.name, i, round, lost)
			}
		}
	}
}

func TestP45TablesByAllOrders(t *testing.T) {
	for i, x := range []struct {
		turns int
		asks  [][]ask
	}{
		{9, [][]ask{under(0, 1), under(1, 0)}},
		{9, [][]ask{under(2, 2, 0), under(0, 2)}},
		{7, [][]ask{under(0, 1), under(1, 2), under(2, 0)}},
		{7, [][]ask{under(1), under(1), under(1, 0)}},
	} {
		if round, lost := byAllOrders(t, x.turns, threeWays(), newSeveral(3), x.asks...); round == 0 || lost == 0 {
			t.Errorf("%d: went round %d times, lost %d times", i, round, lost)
		}
	}
}

func TestP45FreeBesideTurnsByAllOrders(t *testing.T) {
	for _, w := range threeWays() {
		byAllOrders(t, 10, []way{w}, newSingle, under(0), freely(0))
		byAllOrders(t, 8, []way{w}, newSingle, under(0), under(0), freely(0, 0))
		byAllOrders(t, 8, []way{w}, newSingle, freely(0), freely(0), under(0))
	}
	byAllOrders(t, 8, threeWays(), newSeveral(3), append(under(0), freely(1)...), append(freely(0), under(1, 2)...), freely(2))
}

func TestP45TwoThreadsByAnOrder(t *testing.T) {
	// The chapter's example, and then the second thread's CAS comes ahead of the first one's: it makes the value.
	for _, x := range []struct {
		order, threads []int
		ops            []api.OpKind
	}{
		{[]int{0, 1, 0, 1, 1, 1, 0}, []int{0, 1, 0, 1, 1, 1, 0, 1}, []api.OpKind{api.OpLoad, api.OpLoad, api.OpCAS, api.OpCAS, api.OpLoad, api.OpLoad, api.OpStore, api.OpLoad}},
		{[]int{0, 1, 1, 0}, []int{0, 1, 1, 0, 0, 1, 0}, []api.OpKind{api.OpLoad, api.OpLoad, api.OpCAS, api.OpCAS, api.OpLoad, api.OpStore, api.OpLoad}},
	} {
		o := New(giving(7, api.OK))
		get := func(g api.Gate) { gets(t, "Get", answers(o.Get(g)), answer{7, api.OK}) }
		p, e := turn.Play(x.order, get, get)
		if want := plays.Trace(x.threads, at(0, x.ops...)...); e != api.OK || !slices.Equal(p.Trace, want) {
			t.Errorf("by %v: %v, %v, not %v", x.order, e, p.Trace, want)
		}
	}
}

// cutAt lets a thread get till it is cut off, behind so many operations of its Get.
func cutAt(t *testing.T, ops int, get func(g api.Gate) answer) {
	t.Helper()
	if !plays.CutOff(ops, func(g api.Gate) { get(g) }) {
		t.Fatalf("not cut off behind %d operations", ops)
	}
}

// cutObjects are a Once and a Table, new ones of a way, and the number at which they are asked.
func cutObjects(w way, calls *int) map[object]int {
	make := func(int) (int, api.Errno) { return w.counted(calls)() }
	return map[object]int{newSingle(make): 0, newSeveral(3)(make): 2}
}

func TestP45CutOffAheadOfMake(t *testing.T) {
	for _, w := range threeWays() {
		for ops := range 2 {
			calls := 0
			for o, i := range cutObjects(w, &calls) {
				calls = 0
				cutAt(t, ops, func(g api.Gate) answer { return o.get(g, i) })
				if calls != 0 || len(o.made()) != 0 {
					t.Errorf("%s, behind %d: %d calls, made %v", w.name, ops, calls, o.made())
				}
				tells(t, w.name, func(g api.Gate) { gets(t, w.name, o.get(g, i), w.want) }, at(i, api.OpLoad, api.OpCAS, api.OpStore)...)
				gets(t, w.name+", free", o.get(nil, i), w.want)
				if calls != 1 {
					t.Errorf("%s, behind %d: %d calls", w.name, ops, calls)
				}
			}
		}
	}
}

func TestP45CutOffWithinTheStore(t *testing.T) {
	for _, w := range threeWays() {
		calls := 0
		for o, i := range cutObjects(w, &calls) {
			calls = 0
			cutAt(t, 2, func(g api.Gate) answer { return o.get(g, i) })
			made := o.made()
			if calls != 1 || len(made) != 1 || made[0] != i {
				t.Errorf("%s: %d calls, made %v", w.name, calls, made)
			}
			for range 2 {
				goesRound(t, func(g api.Gate) { o.get(g, i) }, i)
				// make has ended: so does a free Get, and it leaves the state as it is.
				ends(t, w.name, func() { gets(t, w.name, o.get(nil, i), w.want) })
			}
			if calls != 1 || !slices.Equal(o.made(), made) {
				t.Errorf("%s: %d calls, made %v", w.name, calls, o.made())
			}
		}
	}
}

// goesRound ends in an error, unless both threads that get go round till they are cut off.
func goesRound(t *testing.T, get func(g api.Gate), word int) {
	t.Helper()
	p, e := turn.Play(nil, get, get)
	if e != api.OK || len(p.Trace) != api.MaxTurns || !slices.Equal(p.Cut, []int{0, 1}) {
		t.Fatalf("%v, %d turns, cut %v", e, len(p.Trace), p.Cut)
	}
	for i, x := range p.Trace {
		if want := (api.Turned{Thread: i % 2, Mark: api.Mark{Op: api.OpLoad, Word: word}}); x != want {
			t.Fatalf("at %d: %v, not %v", i, x, want)
		}
	}
}

func TestP45CutOffBesideOthers(t *testing.T) {
	// Thread 0 stands at its Store while thread 1 has all other turns.
	order := append([]int{0, 0}, slices.Repeat([]int{1}, api.MaxTurns-2)...)
	calls := 0
	o := New(valued().counted(&calls))
	get := func(g api.Gate) { o.Get(g) }
	p, e := turn.Play(order, get, get)
	if e != api.OK || !slices.Equal(p.Cut, []int{0, 1}) || !slices.Equal(plays.Order(p.Trace), order) || calls != 1 {
		t.Errorf("%v, %d turns, cut %v, %d calls", e, len(p.Trace), p.Cut, calls)
	}
	if p.Trace[1].Mark.Op != api.OpCAS || slices.ContainsFunc(p.Trace[2:], func(x api.Turned) bool { return x.Mark.Op != api.OpLoad }) {
		t.Errorf("the second operation is %v", p.Trace[1])
	}
	if n := o.Made(); n != 1 {
		t.Errorf("Made: %d", n)
	}
}
