package queue

import (
	"slices"
	"testing"

	"patchbay/api"
	"patchbay/plays"
)

// twin does what the chapter's steps say, by one thread at a time.
type twin struct {
	words []uint64
	met   meetings
}

// meetings are how often calls found something: a slot that is full, or empty; one that is still being emptied, or filled, by who has its ticket; a ticket that was gone ahead of a look at its slot, or ahead of the compare and swap.
type meetings struct{ full, empty, emptying, filling, ahead, drawn int }

// sequence answers the word of a ticket's slot's sequence; its value is the next one.
func (w *twin) sequence(t uint64) int {
	return 2 + 2*int(t%w.slots())
}

func (w *twin) slots() uint64 {
	return uint64(len(w.words)/2 - 1)
}

// op tells the gate of an operation, and answers its word.
func (w *twin) op(g api.Gate, m api.Mark) *uint64 {
	g.Step(m)
	return &w.words[m.Word]
}

func (w *twin) Put(g api.Gate, v uint64) (bool, api.Errno) {
	for {
		t := *w.op(g, load(0))
		s := *w.op(g, load(w.sequence(t)))
		if s-t >= 1<<63 {
			// The take ticket that empties the slot.
			if w.words[1]-(t-w.slots()) < 1<<63 && w.words[1] != t-w.slots() {
				w.met.emptying++
			} else {
				w.met.full++
			}
			return false, api.OK
		}
		if s != t {
			w.met.ahead++
			continue
		}
		if x := w.op(g, cas(0)); *x == t {
			*x = t + 1
			*w.op(g, store(w.sequence(t)+1)) = v
			*w.op(g, store(w.sequence(t))) = t + 1
			return true, api.OK
		}
		w.met.drawn++
	}
}

func (w *twin) Take(g api.Gate) (uint64, bool, api.Errno) {
	for {
		t := *w.op(g, load(1))
		s := *w.op(g, load(w.sequence(t)))
		if s-(t+1) >= 1<<63 {
			if w.words[0] == t {
				w.met.empty++
			} else {
				w.met.filling++
			}
			return 0, false, api.OK
		}
		if s != t+1 {
			w.met.ahead++
			continue
		}
		if x := w.op(g, cas(1)); *x == t {
			*x = t + 1
			v := *w.op(g, load(w.sequence(t)+1))
			*w.op(g, store(w.sequence(t))) = t + w.slots()
			return v, true, api.OK
		}
		w.met.drawn++
	}
}

func (w *twin) Drain(g api.Gate) ([]uint64, api.Errno) {
	var values []uint64
	for len(values) < int(w.slots()) {
		v, ok, _ := w.Take(g)
		if !ok {
			return values, api.OK
		}
		values = append(values, v)
	}
	return values, api.OK
}

// done is a call of a play that has answered.
type done = plays.Done[ask, answer]

// everyPlay plays what threads do that ask so of a new queue with these words, by all orders of so many first turns, and shows each play: the queue at its end, and the calls.
func everyPlay(t *testing.T, turns int, words []uint64, asks [][]ask, show func(p api.Played, q *Queue, calls []done)) {
	t.Helper()
	var q *Queue
	for p, calls := range plays.EveryAsked(t, turns, asks, func() func(a ask, g api.Gate) answer {
		q = madeOf(t, words)
		return asking(q)
	}) {
		show(p, q, calls)
	}
}

// asked is a queue, or its twin, that is asked in plays.
type asked = plays.Object[ask, answer]

// asIs answers a queue as one that is asked in plays.
func asIs(q *Queue) asked {
	return asked{Of: asking(q), Words: func() []uint64 { return wordsOf(q) }, Same: answer.same}
}

// byAllOrders holds what threads that ask so are answered against the twin, and answers what the twin's calls met.
func byAllOrders(t *testing.T, turns int, words []uint64, asks ...[]ask) meetings {
	t.Helper()
	w := &twin{}
	for range plays.Twins(t, turns, asks, func() asked { return asIs(madeOf(t, words)) }, func() asked {
		w.words = slices.Clone(words)
		return asked{Of: asking(w), Words: func() []uint64 { return w.words }}
	}) {
	}
	return w.met
}

func TestP72PutsAndTakesByAllOrders(t *testing.T) {
	var all meetings
	for _, x := range []struct {
		turns int
		words []uint64
		asks  [][]ask
	}{
		{api.MaxTurns, standing(2, 0), [][]ask{puts(5), takes(1)}},
		{api.MaxTurns, standing(2, 0), [][]ask{puts(5), puts(6)}},
		{api.MaxTurns, standing(2, 0, 5, 6), [][]ask{takes(1), takes(1)}},
		{api.MaxTurns, standing(2, 1, 5, 6), [][]ask{takes(1), puts(7)}},
		{api.MaxTurns, standing(2, 1, 5), [][]ask{puts(6), puts(7)}},
		{12, standing(2, 0), [][]ask{puts(5, 6, 7), takes(4)}},
		{12, standing(2, top, 5, 6), [][]ask{puts(7, 8, 9), takes(4)}},
		{11, standing(4, 3, 5, 6), [][]ask{append(puts(7, 8, 9), takes(2)...), append(takes(2), puts(17, 18)...)}},
		{8, standing(2, top), [][]ask{puts(5), puts(6), puts(7)}},
		{8, standing(2, 1, 5, 6), [][]ask{takes(1), takes(1), takes(1)}},
		{8, standing(4, 1, 5, 6, 7, 8), [][]ask{takes(2), takes(2), puts(9)}},
		{8, standing(2, 0), [][]ask{puts(5, 6), takes(2), takes(2)}},
		{8, standing(2, 0, 1), [][]ask{puts(5, 6), puts(7), takes(2)}},
		{6, standing(2, 0, 1), [][]ask{puts(5, 6), puts(7, 8), takes(2), takes(2)}},
		{6, standing(8, top-1, 1), [][]ask{puts(5), puts(6), takes(1), takes(1), puts(7)}},
	} {
		met := byAllOrders(t, x.turns, x.words, x.asks...)
		all.full += met.full
		all.empty += met.empty
		all.emptying += met.emptying
		all.filling += met.filling
		all.ahead += met.ahead
		all.drawn += met.drawn
	}
	if min(all.full, all.empty, all.emptying, all.filling, all.ahead, all.drawn) == 0 {
		t.Errorf("%v", all)
	}
}

func TestP73DrainsByAllOrders(t *testing.T) {
	for i, x := range []struct {
		turns int
		words []uint64
		asks  [][]ask
	}{
		{api.MaxTurns, standing(2, 0), [][]ask{drains(1), puts(7)}},
		{api.MaxTurns, standing(2, 1, 5), [][]ask{drains(1), puts(7)}},
		{13, standing(2, 1, 5, 6), [][]ask{drains(2), puts(7, 8, 9)}},
		{11, standing(2, top, 5, 6), [][]ask{drains(1), drains(1)}},
		{8, standing(4, 0, 5, 6), [][]ask{drains(1), takes(1), puts(7)}},
		{8, standing(2, 0, 5, 6), [][]ask{drains(2), drains(1), puts(7, 8)}},
	} {
		if met := byAllOrders(t, x.turns, x.words, x.asks...); met == (meetings{}) {
			t.Errorf("%d: %v", i, met)
		}
	}
}

func TestP72ExamplesByOrders(t *testing.T) {
	for _, x := range []struct {
		name   string
		words  []uint64
		play   plays.Example[ask, answer]
		behind []uint64
	}{
		{"a Take that sees the sequence behind", standing(2, 0), plays.Example[ask, answer]{
			Order: []int{0, 0, 0, 1, 1, 0, 0}, Asks: [][]ask{puts(5), takes(1)}, Want: []answer{yes(), no()},
			Threads: []int{0, 0, 0, 1, 1, 0, 0},
			Marks:   []api.Mark{load(0), load(2), cas(0), load(1), load(2), store(3), store(2)},
		}, []uint64{5}},
		{"a Take that sees the sequence", standing(2, 0), plays.Example[ask, answer]{
			Order: []int{0, 0, 0, 1, 0, 0, 1}, Asks: [][]ask{puts(5), takes(1)}, Want: []answer{yes(), took(5)},
			Threads: []int{0, 0, 0, 1, 0, 0, 1, 1, 1, 1},
			Marks:   []api.Mark{load(0), load(2), cas(0), load(1), store(3), store(2), load(2), cas(1), load(3), store(2)},
		}, nil},
		{"a Put ahead of a Take's last operation", standing(2, 0, 5, 6), plays.Example[ask, answer]{
			Order: []int{1, 1, 1, 1, 0, 0, 1}, Asks: [][]ask{puts(7), takes(1)}, Want: []answer{no(), took(5)},
			Threads: []int{1, 1, 1, 1, 0, 0, 1},
			Marks:   []api.Mark{load(1), load(2), cas(1), load(3), load(0), load(2), store(2)},
		}, []uint64{6}},
		{"a Put behind a Take's last operation", standing(2, 0, 5, 6), plays.Example[ask, answer]{
			Order: []int{1, 1, 1, 1, 0, 1, 0}, Asks: [][]ask{puts(7), takes(1)}, Want: []answer{yes(), took(5)},
			Threads: []int{1, 1, 1, 1, 0, 1, 0, 0, 0, 0},
			Marks:   []api.Mark{load(1), load(2), cas(1), load(3), load(0), store(2), load(2), cas(0), store(3), store(2)},
		}, []uint64{6, 7}},
		{"two that want one put ticket", standing(2, 0), plays.Example[ask, answer]{
			Order: []int{0, 1, 0, 1, 0, 1}, Asks: [][]ask{puts(5), puts(6)}, Want: []answer{yes(), yes()},
			Threads: []int{0, 1, 0, 1, 0, 1, 0, 1, 0, 1, 1, 1, 1},
			Marks:   []api.Mark{load(0), load(0), load(2), load(2), cas(0), cas(0), store(3), load(0), store(2), load(4), cas(0), store(5), store(4)},
		}, []uint64{5, 6}},
		{"two that want one take ticket, of one value", standing(2, 0, 5), plays.Example[ask, answer]{
			Order: []int{0, 1, 0, 1, 1, 0}, Asks: [][]ask{takes(1), takes(1)}, Want: []answer{no(), took(5)},
			Threads: []int{0, 1, 0, 1, 1, 0, 0, 1, 0, 1},
			Marks:   []api.Mark{load(1), load(1), load(2), load(2), cas(1), cas(1), load(1), load(3), load(4), store(2)},
		}, nil},
		{"a Put whose ticket is gone ahead of its look at the slot", standing(2, 0), plays.Example[ask, answer]{
			Order: []int{0, 1, 1, 1, 1, 1, 0}, Asks: [][]ask{puts(5), puts(6)}, Want: []answer{yes(), yes()},
			Threads: []int{0, 1, 1, 1, 1, 1, 0, 0, 0, 0, 0, 0},
			Marks:   []api.Mark{load(0), load(0), load(2), cas(0), store(3), store(2), load(2), load(0), load(4), cas(0), store(5), store(4)},
		}, []uint64{6, 5}},
		{"a Take whose ticket is gone ahead of its look at the slot", standing(2, 0, 5, 6), plays.Example[ask, answer]{
			Order: []int{0, 1, 1, 1, 1, 1, 0}, Asks: [][]ask{takes(1), takes(1)}, Want: []answer{took(6), took(5)},
			Threads: []int{0, 1, 1, 1, 1, 1, 0, 0, 0, 0, 0, 0},
			Marks:   []api.Mark{load(1), load(1), load(2), cas(1), load(3), store(2), load(2), load(1), load(4), cas(1), load(5), store(4)},
		}, nil},
		{"a later Put that ends first", standing(2, 0), plays.Example[ask, answer]{
			Order: []int{0, 0, 0, 1, 1, 1, 1, 1, 2, 2, 0, 0}, Asks: [][]ask{puts(5), puts(6), takes(2)}, Want: []answer{yes(), yes(), took(5)},
			Threads: []int{0, 0, 0, 1, 1, 1, 1, 1, 2, 2, 0, 0, 2, 2, 2, 2, 2},
			Marks:   []api.Mark{load(0), load(2), cas(0), load(0), load(4), cas(0), store(5), store(4), load(1), load(2), store(3), store(2), load(1), load(2), cas(1), load(3), store(2)},
		}, []uint64{6}},
		{"a Drain that takes what comes meanwhile", standing(2, 0, 5), plays.Example[ask, answer]{
			Order: []int{0, 0, 0, 0, 0, 1, 1, 1, 1, 1}, Asks: [][]ask{drains(1), puts(6)}, Want: []answer{list(5, 6), yes()},
			Threads: []int{0, 0, 0, 0, 0, 1, 1, 1, 1, 1, 0, 0, 0, 0, 0},
			Marks:   []api.Mark{load(1), load(2), cas(1), load(3), store(2), load(0), load(4), cas(0), store(5), store(4), load(1), load(4), cas(1), load(5), store(4)},
		}, nil},
	} {
		q := madeOf(t, x.words)
		plays.AsTold(t, x.name, asIs(q), x.play)
		holds(t, x.name, q, x.behind...)
	}
}
