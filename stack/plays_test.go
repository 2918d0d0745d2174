package stack

import (
	"testing"

	"patchbay/api"
	"patchbay/plays"
)

// twin does what the chapter's steps say, by one thread at a time. Of the tops the first one is that of the stack, the second one that of the free nodes.
type twin struct {
	tops  [2]struct{ node, tag uint32 }
	nodes []struct {
		next  uint32
		value uint64
	}
	met meetings
}

// meetings are how often calls found something: no free node, or none on the stack; a node that was with some other call then; and, of each top, how often a compare and swap that takes a node, or one that lays it, did not swap; how often, then, the node was there again; how often another next had come with it.
type meetings struct {
	full, empty, underway             int
	took, laid, tookBack, laidBack, n [2]int
}

// all are the meetings that there may be.
func (m meetings) all() []int {
	list := []int{m.full, m.empty, m.underway}
	for _, x := range [][2]int{m.took, m.laid, m.tookBack, m.laidBack, m.n} {
		list = append(list, x[:]...)
	}
	return list
}

// twinOf answers a twin with these words.
func twinOf(words []uint64) *twin {
	w := &twin{}
	w.become(words)
	return w
}

// become makes its words those.
func (w *twin) become(words []uint64) {
	for i := range w.tops {
		w.tops[i].node, w.tops[i].tag = uint32(words[i]), uint32(words[i]>>32)
	}
	w.nodes = make([]struct {
		next  uint32
		value uint64
	}, len(words)/2-1)
	for i := range w.nodes {
		w.nodes[i].next, w.nodes[i].value = uint32(words[2+2*i]), words[3+2*i]
	}
}

// words answers its words.
func (w *twin) words() []uint64 {
	var words []uint64
	for _, x := range w.tops {
		words = append(words, uint64(x.tag)*tags+uint64(x.node))
	}
	for _, x := range w.nodes {
		words = append(words, uint64(x.next), x.value)
	}
	return words
}

// count answers how many nodes there are, from a top on.
func (w *twin) count(top int) int {
	n := 0
	for i := w.tops[top].node; i != 0; i = w.nodes[i-1].next {
		n++
	}
	return n
}

// take takes a top's node: its number, or -1.
func (w *twin) take(g api.Gate, top int) int {
	for {
		g.Step(load(top))
		t := w.tops[top]
		if t.node == 0 {
			if w.count(1-top) < len(w.nodes) {
				w.met.underway++
			}
			return -1
		}
		i := int(t.node) - 1
		g.Step(load(2 + 2*i))
		n := w.nodes[i].next
		g.Step(cas(top))
		if w.tops[top] == t {
			w.tops[top].node = n
			w.tops[top].tag++
			return i
		}
		w.met.took[top]++
		if w.tops[top].node == t.node {
			w.met.tookBack[top]++
			if w.nodes[i].next != n {
				w.met.n[top]++
			}
		}
	}
}

// lay makes a node a top's.
func (w *twin) lay(g api.Gate, top, i int) {
	for {
		g.Step(load(top))
		t := w.tops[top]
		g.Step(store(2 + 2*i))
		w.nodes[i].next = t.node
		g.Step(cas(top))
		if w.tops[top] == t {
			w.tops[top].node = uint32(i) + 1
			w.tops[top].tag++
			return
		}
		w.met.laid[top]++
		if w.tops[top].node == t.node {
			w.met.laidBack[top]++
		}
	}
}

func (w *twin) Push(g api.Gate, v uint64) (bool, api.Errno) {
	i := w.take(g, 1)
	if i < 0 {
		w.met.full++
		return false, api.OK
	}
	g.Step(store(3 + 2*i))
	w.nodes[i].value = v
	w.lay(g, 0, i)
	return true, api.OK
}

func (w *twin) Pop(g api.Gate) (uint64, bool, api.Errno) {
	i := w.take(g, 0)
	if i < 0 {
		w.met.empty++
		return 0, false, api.OK
	}
	g.Step(load(3 + 2*i))
	v := w.nodes[i].value
	w.lay(g, 1, i)
	return v, true, api.OK
}

// done is a call of a play that has answered.
type done = plays.Done[ask, answer]

// asked is a stack, or its twin, that is asked in plays.
type asked = plays.Object[ask, answer]

// asIs answers a stack as one that is asked in plays, and likeIt its twin.
func asIs(s *Stack) asked {
	return asked{Of: asking(s), Words: func() []uint64 { return wordsOf(s) }, Same: same}
}

func likeIt(w *twin) asked {
	return asked{Of: asking(w), Words: w.words, Same: same}
}

// asking answers what asks that object.
func asking(o object) func(a ask, g api.Gate) answer {
	return func(a ask, g api.Gate) answer { return a.of(o, g) }
}

func same(a, b answer) bool { return a == b }

// start is what stands there ahead of a play: how many slots, the tags of the tops, the numbers that lie there.
type start struct {
	n       int
	tags    [2]uint64
	numbers []uint64
}

// at answers a start whose tags are such ones as pushes leave them.
func at(n int, numbers ...uint64) start {
	many := uint64(len(numbers))
	return start{n, [2]uint64{many, many}, numbers}
}

// words answers the words of a start.
func (x start) words() []uint64 {
	return tagged(x.tags[0], x.tags[1], standing(x.n, x.numbers...))
}

// byAllOrders holds what threads that ask so are answered, by all orders of so many first turns, against the twin and against the words of P8.4, and adds to what the twin's calls met.
func byAllOrders(t *testing.T, met *meetings, turns int, x start, asks ...[]ask) {
	t.Helper()
	words := x.words()
	w := &twin{met: *met}
	var s *Stack
	for p, calls := range plays.Twins(t, turns, asks, func() asked {
		s = madeOf(t, words)
		return asIs(s)
	}, func() asked {
		w.become(words)
		return likeIt(w)
	}) {
		follows(t, x, p, s, calls)
	}
	*met = w.met
}

func TestP82PushesByAllOrders(t *testing.T) {
	var met meetings
	for _, x := range []struct {
		turns int
		start start
		asks  [][]ask
	}{
		{api.MaxTurns, at(2), [][]ask{pushes(5), pushes(6)}},
		{api.MaxTurns, at(1), [][]ask{pushes(5), pushes(6)}},
		{11, start{4, [2]uint64{tags - 1, tags - 2}, []uint64{1}}, [][]ask{pushes(5, 6), pushes(7, 8)}},
		{7, at(4), [][]ask{pushes(5, 6), pushes(7), pushes(8)}},
		{7, at(2), [][]ask{pushes(5), pushes(6), pushes(7)}},
		{6, at(4, 1), [][]ask{pushes(5), pushes(6), pushes(7), pushes(8)}},
	} {
		byAllOrders(t, &met, x.turns, x.start, x.asks...)
	}
	if met.full == 0 || met.underway == 0 || met.took[1] == 0 || met.laid[0] == 0 {
		t.Errorf("%v", met)
	}
}

func TestP83PopsByAllOrders(t *testing.T) {
	var met meetings
	for _, x := range []struct {
		turns int
		start start
		asks  [][]ask
	}{
		{api.MaxTurns, at(2, 5, 6), [][]ask{pops(1), pops(1)}},
		{api.MaxTurns, at(2, 5), [][]ask{pops(1), pops(1)}},
		{11, start{4, [2]uint64{tags - 2, tags - 1}, []uint64{5, 6, 7}}, [][]ask{pops(2), pops(2)}},
		{7, at(4, 5, 6, 7), [][]ask{pops(2), pops(1), pops(1)}},
		{7, at(2, 5, 6), [][]ask{pops(1), pops(1), pops(1)}},
		{6, at(4, 5, 6, 7), [][]ask{pops(1), pops(1), pops(1), pops(1)}},
	} {
		byAllOrders(t, &met, x.turns, x.start, x.asks...)
	}
	if met.empty == 0 || met.underway == 0 || met.took[0] == 0 || met.laid[1] == 0 {
		t.Errorf("%v", met)
	}
}

func TestP84PushesAndPopsByAllOrders(t *testing.T) {
	var met meetings
	both := append(pushes(9), pops(1)...)
	back := append(pops(1), pushes(9)...)
	for _, x := range []struct {
		turns int
		start start
		asks  [][]ask
	}{
		{api.MaxTurns, at(1), [][]ask{pushes(5), pops(1)}},
		{api.MaxTurns, at(2, 5), [][]ask{pushes(6), pops(1)}},
		{12, at(2, 5, 6), [][]ask{pushes(7), pops(1)}},
		{12, at(2, 5, 6), [][]ask{pops(2), back}},
		{12, at(2, 5), [][]ask{pushes(7, 8), back}},
		{12, start{2, [2]uint64{tags - 1, tags - 1}, []uint64{5}}, [][]ask{both, both}},
		{12, at(1), [][]ask{append(both, pushes(8)...), append(back, pops(1)...)}},
		{7, at(4, 5, 6, 7), [][]ask{pops(1), back, pops(1)}},
		{7, at(2, 5), [][]ask{pushes(6), pops(1), both}},
		{7, at(1), [][]ask{both, both, back}},
		{6, at(4, 5, 6), [][]ask{pushes(7), pops(1), both, back}},
		{5, at(2, 5), [][]ask{pushes(7), pops(1), both, back, pushes(8)}},
	} {
		byAllOrders(t, &met, x.turns, x.start, x.asks...)
	}
	for _, n := range []int{met.full, met.empty, met.underway, met.took[0], met.took[1], met.laid[0], met.laid[1], met.tookBack[0]} {
		if n == 0 {
			t.Errorf("%v", met)
		}
	}
}

func TestP84ExamplesByOrders(t *testing.T) {
	for _, x := range []struct {
		name   string
		words  []uint64
		play   plays.Example[ask, answer]
		behind []uint64
	}{
		{"two that want one node of the stack", standing(2, 5), plays.Example[ask, answer]{
			Order: []int{0, 1, 0, 1, 0, 1}, Asks: [][]ask{pops(1), pops(1)}, Want: []answer{popped(5), no()},
			Threads: []int{0, 1, 0, 1, 0, 1, 0, 1, 0, 0, 0},
			Marks:   []api.Mark{load(0), load(0), load(2), load(2), cas(0), cas(0), load(3), load(0), load(1), store(2), cas(1)},
		}, nil},
		{"two that want one free node", standing(2, 5), plays.Example[ask, answer]{
			Order: []int{0, 1, 0, 1, 1, 0, 0}, Asks: [][]ask{pushes(6), pushes(7)}, Want: []answer{no(), yes()},
			Threads: []int{0, 1, 0, 1, 1, 0, 0, 1, 1, 1, 1},
			Marks:   []api.Mark{load(1), load(1), load(4), load(4), cas(1), cas(1), load(1), store(5), load(0), store(4), cas(0)},
		}, []uint64{5, 7}},
		{"two that lay their nodes on one", standing(2), plays.Example[ask, answer]{
			Order: []int{0, 0, 0, 1, 1, 1, 0, 0, 1, 1, 0, 1, 0, 1}, Asks: [][]ask{pushes(5), pushes(6)}, Want: []answer{yes(), yes()},
			Threads: []int{0, 0, 0, 1, 1, 1, 0, 0, 1, 1, 0, 1, 0, 1, 1, 1, 1},
			Marks: []api.Mark{load(1), load(2), cas(1), load(1), load(4), cas(1), store(3), load(0), store(5), load(0), store(2), store(4), cas(0), cas(0),
				load(0), store(4), cas(0)},
		}, []uint64{5, 6}},
		{"a Pop that frees its node behind another one", standing(2, 5, 6), plays.Example[ask, answer]{
			Order: []int{0, 0, 0, 0, 0, 1, 1, 1, 1, 1, 1, 1}, Asks: [][]ask{pops(1), pops(1)}, Want: []answer{popped(6), popped(5)},
			Threads: []int{0, 0, 0, 0, 0, 1, 1, 1, 1, 1, 1, 1, 0, 0, 0, 0, 0},
			Marks: []api.Mark{load(0), load(4), cas(0), load(5), load(1), load(0), load(2), cas(0), load(3), load(1), store(2), cas(1), store(4), cas(1),
				load(1), store(4), cas(1)},
		}, nil},
		{"a Push that finds no node while the Pop has it", standing(1, 5), plays.Example[ask, answer]{
			Order: []int{0, 0, 0, 0, 1, 0, 0, 0}, Asks: [][]ask{pops(1), pushes(6)}, Want: []answer{popped(5), no()},
			Threads: []int{0, 0, 0, 0, 1, 0, 0, 0},
			Marks:   []api.Mark{load(0), load(2), cas(0), load(3), load(1), load(1), store(2), cas(1)},
		}, nil},
		{"a Pop that finds nothing while the Push has the node", standing(1), plays.Example[ask, answer]{
			Order: []int{0, 0, 0, 0, 0, 0, 1, 0}, Asks: [][]ask{pushes(6), pops(1)}, Want: []answer{yes(), no()},
			Threads: []int{0, 0, 0, 0, 0, 0, 1, 0},
			Marks:   []api.Mark{load(1), load(2), cas(1), store(3), load(0), store(2), load(0), cas(0)},
		}, []uint64{6}},
		{"a top that went away and came back", standing(4, 5, 6, 7), plays.Example[ask, answer]{
			Order: []int{0, 0, 1, 1, 1, 1, 2, 2, 2, 2, 2, 2, 2, 1, 1, 1, 1, 1, 1, 1, 1, 1, 1},
			Asks:  [][]ask{pops(1), append(pops(1), pushes(9)...), pops(1)}, Want: []answer{popped(9), yes(), popped(6)},
			Threads: []int{0, 0, 1, 1, 1, 1, 2, 2, 2, 2, 2, 2, 2, 1, 1, 1, 1, 1, 1, 1, 1, 1, 1, 0, 0, 0, 0, 0, 0, 0, 0},
			Marks: []api.Mark{load(0), load(6), load(0), load(6), cas(0), load(7), load(0), load(4), cas(0), load(5), load(1), store(4), cas(1),
				load(1), store(6), cas(1), load(1), load(6), cas(1), store(7), load(0), store(6), cas(0),
				cas(0), load(0), load(6), cas(0), load(7), load(1), store(6), cas(1)},
		}, []uint64{5}},
		{"a free top that went away and came back", standing(1), plays.Example[ask, answer]{
			Order: []int{0, 0, 1, 1, 1, 1, 1, 1, 1, 1, 1, 1, 1, 1, 1, 1, 0}, Asks: [][]ask{pushes(5), append(pushes(6), pops(1)...)}, Want: []answer{yes(), popped(6)},
			Threads: []int{0, 0, 1, 1, 1, 1, 1, 1, 1, 1, 1, 1, 1, 1, 1, 1, 0, 0, 0, 0, 0, 0, 0, 0},
			Marks: append(append(append([]api.Mark{load(1), load(2)}, pushSteps(0)...), popSteps(0)...),
				append([]api.Mark{cas(1)}, pushSteps(0)...)...),
		}, []uint64{5}},
	} {
		s := madeOf(t, x.words)
		plays.AsTold(t, x.name, asIs(s), x.play)
		holds(t, x.name, s, x.behind...)
	}
}
