package ring

import (
	"slices"
	"testing"

	"patchbay/api"
	"patchbay/plays"
)

// twin does what the chapter's steps say, by one thread at a time.
type twin struct {
	words []uint64
	met   meetings
}

// meetings are how often calls found something: a Put no room, a Take nothing; a Len more than there is room; a Put or a Take at its last step that another one of its kind had been there meanwhile.
type meetings struct{ full, empty, beyond, overtaken int }

// slot answers the word of a count's slot.
func (w *twin) slot(c uint64) int {
	return 2 + int(c%uint64(len(w.words)-2))
}

func (w *twin) Put(g api.Gate, v uint64) (bool, api.Errno) {
	g.Step(load(1))
	p := w.words[1]
	g.Step(load(0))
	t := w.words[0]
	if p-t >= uint64(len(w.words)-2) {
		w.met.full++
		return false, api.OK
	}
	g.Step(store(w.slot(p)))
	w.words[w.slot(p)] = v
	g.Step(store(1))
	if w.words[1] != p {
		w.met.overtaken++
	}
	w.words[1] = p + 1
	return true, api.OK
}

func (w *twin) Take(g api.Gate) (uint64, bool, api.Errno) {
	g.Step(load(0))
	t := w.words[0]
	g.Step(load(1))
	p := w.words[1]
	if t == p {
		w.met.empty++
		return 0, false, api.OK
	}
	g.Step(load(w.slot(t)))
	v := w.words[w.slot(t)]
	g.Step(store(0))
	if w.words[0] != t {
		w.met.overtaken++
	}
	w.words[0] = t + 1
	return v, true, api.OK
}

func (w *twin) Len(g api.Gate) (int, api.Errno) {
	g.Step(load(0))
	t := w.words[0]
	g.Step(load(1))
	p := w.words[1]
	if n := uint64(len(w.words) - 2); p-t > n {
		w.met.beyond++
		return int(n), api.OK
	}
	return int(p - t), api.OK
}

// done is a call of a play that has answered.
type done = plays.Done[ask, answer]

// everyPlay plays what threads do that ask so of a new ring with these words, by all orders of so many first turns, and shows each play: the ring at its end, and the calls.
func everyPlay(t *testing.T, turns int, words []uint64, asks [][]ask, show func(p api.Played, r *Ring, calls []done)) {
	t.Helper()
	var r *Ring
	for p, calls := range plays.EveryAsked(t, turns, asks, func() func(a ask, g api.Gate) answer {
		r = madeOf(t, words)
		return asking(r)
	}) {
		show(p, r, calls)
	}
}

// asked is a ring, or its twin, that is asked in plays.
type asked = plays.Object[ask, answer]

// asIs answers a ring as one that is asked in plays.
func asIs(r *Ring) asked {
	return asked{Of: asking(r), Words: func() []uint64 { return wordsOf(r) }, Same: func(a, b answer) bool { return a == b }}
}

// byAllOrders holds what threads that ask so are answered against the twin, and answers what the twin's calls met.
func byAllOrders(t *testing.T, turns int, words []uint64, asks ...[]ask) meetings {
	t.Helper()
	w := &twin{}
	for p, calls := range plays.Twins(t, turns, asks, func() asked { return asIs(madeOf(t, words)) }, func() asked {
		w.words = slices.Clone(words)
		return asked{Of: asking(w), Words: func() []uint64 { return w.words }}
	}) {
		operations(t, p.Trace, calls)
	}
	return w.met
}

// operations holds the calls of a play against P6.5's words: how many operations they had.
func operations(t *testing.T, trace []api.Turned, calls []done) {
	t.Helper()
	for _, d := range calls {
		had := 0
		for _, x := range trace[d.From-1 : d.To] {
			if x.Thread == d.Thread {
				had++
			}
		}
		want := 2
		if d.Ask.kind != doLen && d.Answer.ok {
			want = 4
		}
		if had != want {
			t.Errorf("by %v: %v had %d operations, not %d", plays.Order(trace), d, had, want)
		}
	}
}

// empty answers the words of a ring of n slots into which nothing was put.
func empty(n int) []uint64 {
	return make([]uint64, 2+n)
}

func TestP62OneAndOneByAllOrders(t *testing.T) {
	for i, x := range []struct {
		turns int
		words []uint64
		asks  [][]ask
	}{
		{api.MaxTurns, empty(1), [][]ask{puts(5, 6), takes(2)}},
		{api.MaxTurns, []uint64{3, 4, 7, 8}, [][]ask{puts(5, 6), takes(2)}},
		{12, empty(1), [][]ask{puts(to(4)...), takes(4)}},
		{12, empty(2), [][]ask{puts(to(6)...), takes(4)}},
		{9, empty(4), [][]ask{puts(to(7)...), takes(3)}},
		{9, []uint64{top, top, 0, 0}, [][]ask{puts(to(5)...), takes(5)}},
		{7, empty(1), [][]ask{puts(5, 6), takes(2), lens(2)}},
		{7, empty(2), [][]ask{puts(5, 6, 7), takes(3), lens(2)}},
		{9, empty(1), [][]ask{inTurns(puts(5, 6, 7), lens(3)), inTurns(lens(3), takes(3))}},
	} {
		if met := byAllOrders(t, x.turns, x.words, x.asks...); met.full == 0 || met.empty == 0 || met.overtaken != 0 {
			t.Errorf("%d: %v", i, met)
		}
	}
}

// TestP62AnyThreadsByAllOrders: several put and take at a time, which is nothing that P6.3 speaks of; what comes is what the steps say.
func TestP62AnyThreadsByAllOrders(t *testing.T) {
	for i, x := range []struct {
		turns int
		words []uint64
		asks  [][]ask
	}{
		{api.MaxTurns, empty(2), [][]ask{puts(5), puts(6), lens(1)}},
		{9, empty(1), [][]ask{puts(5, 6), puts(7, 8)}},
		{9, []uint64{0, 2, 5, 6}, [][]ask{takes(2), takes(2)}},
		{8, []uint64{1, 3, 5, 6}, [][]ask{takes(1), takes(1), takes(1)}},
		{7, empty(2), [][]ask{puts(5, 6), puts(7, 8), takes(3)}},
		{7, []uint64{0, 1, 5, 6}, [][]ask{puts(5, 6), takes(2), takes(2)}},
		{7, empty(2), [][]ask{inTurns(puts(5, 6), takes(2)), inTurns(takes(2), puts(7, 8)), lens(2)}},
		{6, empty(1), [][]ask{puts(5), puts(6), takes(2), takes(2), lens(1)}},
		{6, []uint64{top, 0, 3, 4}, [][]ask{puts(5), puts(6), takes(2), takes(2), lens(1)}},
	} {
		if met := byAllOrders(t, x.turns, x.words, x.asks...); met.overtaken == 0 {
			t.Errorf("%d: %v", i, met)
		}
	}
}

func TestP62ALenThatMeetsBothByAllOrders(t *testing.T) {
	// Behind its first Load a number is taken, and another one is put in its place.
	if met := byAllOrders(t, api.MaxTurns, []uint64{0, 1, 5}, lens(1), append(takes(1), puts(6)...)); met.beyond == 0 {
		t.Errorf("%v", met)
	}
}

func TestP62ExamplesByOrders(t *testing.T) {
	for _, x := range []struct {
		name   string
		words  []uint64
		play   plays.Example[ask, answer]
		behind []uint64
	}{
		{"a Take that sees 0 put", empty(1), plays.Example[ask, answer]{
			Order: []int{0, 0, 0, 1, 1, 0}, Asks: [][]ask{puts(5), takes(1)}, Want: []answer{yes(0), no()},
			Threads: []int{0, 0, 0, 1, 1, 0},
			Marks:   []api.Mark{load(1), load(0), store(2), load(0), load(1), store(1)},
		}, []uint64{5}},
		{"a Take behind the count", empty(1), plays.Example[ask, answer]{
			Order: []int{0, 0, 0, 1, 0, 1}, Asks: [][]ask{puts(5), takes(1)}, Want: []answer{yes(0), yes(5)},
			Threads: []int{0, 0, 0, 1, 0, 1, 1, 1},
			Marks:   []api.Mark{load(1), load(0), store(2), load(0), store(1), load(1), load(2), store(0)},
		}, nil},
		{"a Put ahead of the taken count", []uint64{0, 1, 5}, plays.Example[ask, answer]{
			Order: []int{1, 1, 1, 0, 0, 1}, Asks: [][]ask{puts(6), takes(1)}, Want: []answer{no(), yes(5)},
			Threads: []int{1, 1, 1, 0, 0, 1},
			Marks:   []api.Mark{load(0), load(1), load(2), load(1), load(0), store(0)},
		}, nil},
		{"a Put behind the taken count", []uint64{0, 1, 5}, plays.Example[ask, answer]{
			Order: []int{1, 1, 1, 0, 1, 0}, Asks: [][]ask{puts(6), takes(1)}, Want: []answer{yes(0), yes(5)},
			Threads: []int{1, 1, 1, 0, 1, 0, 0, 0},
			Marks:   []api.Mark{load(0), load(1), load(2), load(1), store(0), load(0), store(2), store(1)},
		}, []uint64{6}},
		{"a Len of one more than there is room", []uint64{0, 1, 5}, plays.Example[ask, answer]{
			Order: []int{0, 1, 1, 1, 1, 1, 1, 1, 1}, Asks: [][]ask{lens(1), append(takes(1), puts(6)...)}, Want: []answer{many(1), yes(0)},
			Threads: []int{0, 1, 1, 1, 1, 1, 1, 1, 1, 0},
			Marks:   []api.Mark{load(0), load(0), load(1), load(2), store(0), load(1), load(0), store(2), store(1), load(1)},
		}, []uint64{6}},
		{"two that put into one slot", empty(2), plays.Example[ask, answer]{
			Order: []int{0, 0, 1, 1}, Asks: [][]ask{puts(5), puts(6)}, Want: []answer{yes(0), yes(0)},
			Threads: []int{0, 0, 1, 1, 0, 1, 0, 1},
			Marks:   []api.Mark{load(1), load(0), load(1), load(0), store(2), store(2), store(1), store(1)},
		}, []uint64{6}},
		{"two that take from one slot", []uint64{0, 2, 5, 6}, plays.Example[ask, answer]{
			Order: []int{0, 0, 1, 1}, Asks: [][]ask{takes(1), takes(1)}, Want: []answer{yes(5), yes(5)},
			Threads: []int{0, 0, 1, 1, 0, 1, 0, 1},
			Marks:   []api.Mark{load(0), load(1), load(0), load(1), load(2), load(2), store(0), store(0)},
		}, []uint64{6}},
	} {
		r := madeOf(t, x.words)
		plays.AsTold(t, x.name, asIs(r), x.play)
		holds(t, x.name, r, x.behind...)
	}
}

// TestP65NobodyWaits: between any two of its operations others come through, as often as there is room for them.
func TestP65NobodyWaits(t *testing.T) {
	asks := [][]ask{puts(5), takes(1), lens(1), inTurns(puts(to(40)...), takes(40), lens(40)), inTurns(takes(40), puts(to(40)...))}
	for _, words := range [][]uint64{empty(1), {0, 1, 5}, empty(4), {3, 6, 5, 6, 7, 8}} {
		var order []int
		for i := range 5 {
			order = append(order, 0, 1, 2)
			order = append(order, slices.Repeat([]int{3, 4, 4}, 5+i)...)
		}
		r := madeOf(t, words)
		p, calls, e := plays.Asked(order, asks, asking(r))
		if e != api.OK || len(p.Cut) != 0 || len(calls) != 203 {
			t.Errorf("%v, cut %v, %d calls", e, p.Cut, len(calls))
		}
		operations(t, p.Trace, calls)
		for _, d := range calls {
			if d.Thread < 3 && d.To-d.From < 10 {
				t.Errorf("nobody comes between the operations of %v", d)
			}
		}
	}
}
