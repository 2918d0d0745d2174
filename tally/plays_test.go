package tally_test

import (
	"fmt"
	"slices"
	"testing"

	"patchbay/api"
	"patchbay/gates"
	"patchbay/plays"
	"patchbay/tally"
)

// twin does what the chapter's steps say of a tally, by one thread at a time.
type twin struct {
	words []uint64
	adds  []int // how many there were, shard by shard
	met   meetings
}

// meetings are how often calls met others: Adds to a shard at which a Sum or a Parts had looked already, and to one at which it had not yet; of a Hist, a compare and swap that did not swap, for the first time and again; one behind which another number was so great that there was nothing to swap; a Get that found a number in one of its parts, and missed it in another one.
type meetings struct {
	missed, found int
	round, again  int
	overtaken     int
	torn          int
}

// add counts those of another play, too.
func (m *meetings) add(x meetings) {
	m.missed += x.missed
	m.found += x.found
	m.round += x.round
	m.again += x.again
	m.overtaken += x.overtaken
	m.torn += x.torn
}

// twinOf answers a twin of a tally of so many shards, to which that was added.
func twinOf(n int, ahead ...uint64) *twin {
	w := &twin{words: zeros(n), adds: make([]int, n)}
	copy(w.words, ahead)
	return w
}

func (w *twin) Add(g api.Gate, shard int, n uint64) (uint64, api.Errno) {
	if shard < 0 || shard >= len(w.words) {
		return 0, api.ErrRange
	}
	gates.Tell(g, api.OpAdd, shard)
	w.words[shard] += n
	w.adds[shard]++
	return w.words[shard], api.OK
}

func (w *twin) Parts(g api.Gate) ([]uint64, api.Errno) {
	var list []uint64
	first, seen := slices.Clone(w.adds), []int{}
	for shard := range w.words {
		gates.Tell(g, api.OpLoad, shard)
		list = append(list, w.words[shard])
		seen = append(seen, w.adds[shard])
	}
	for shard, n := range seen {
		w.met.found += n - first[shard]
		w.met.missed += w.adds[shard] - n
	}
	return list, api.OK
}

func (w *twin) Sum(g api.Gate) (uint64, api.Errno) {
	list, e := w.Parts(g)
	var sum uint64
	for _, n := range list {
		sum += n
	}
	return sum, e
}

// histTwin does what the chapter's steps say of a Hist, by one thread at a time.
type histTwin struct {
	words [67]uint64
	met   meetings
}

func (w *histTwin) Add(g api.Gate, v uint64) api.Errno {
	bits := bitsOf(v)
	gates.Tell(g, api.OpAdd, bits)
	w.words[bits]++
	gates.Tell(g, api.OpAdd, theSum)
	w.words[theSum] += v
	for round := 0; ; round++ {
		gates.Tell(g, api.OpLoad, theGreatest)
		m := w.words[theGreatest]
		if v <= m {
			if round > 0 {
				w.met.overtaken++
			}
			return api.OK
		}
		gates.Tell(g, api.OpCAS, theGreatest)
		if w.words[theGreatest] == m {
			w.words[theGreatest] = v
			return api.OK
		}
		w.met.round++
		if round > 0 {
			w.met.again++
		}
	}
}

func (w *histTwin) Get(g api.Gate) (api.Hist, api.Errno) {
	var list [67]uint64
	for word := range list {
		gates.Tell(g, api.OpLoad, word)
		list[word] = w.words[word]
	}
	h := api.Hist{Counts: [api.Buckets]uint64(list[:theSum]), Sum: list[theSum], Max: list[theGreatest]}
	if list != w.words {
		w.met.torn++
	}
	return h, api.OK
}

// done and doneHist are calls of a play that have answered.
type (
	done     = plays.Done[ask, answer]
	doneHist = plays.Done[come, told]
)

// play is threads that ask so of a tally of so many shards, to which that was added, by all orders of so many first turns.
type play struct {
	turns int
	n     int
	ahead []uint64
	asks  [][]ask
}

// byAllOrders holds what threads are answered against the twin and against the words of P11.4, and answers what the twin's calls met.
func byAllOrders(t *testing.T, list ...play) meetings {
	t.Helper()
	var met meetings
	for _, x := range list {
		var o *tally.Tally
		for p, calls := range plays.Twins(t, x.turns, x.asks, func() asked {
			o = made(t, x.n, x.ahead...)
			return asIs(o)
		}, func() asked {
			w := twinOf(x.n, x.ahead...)
			y := asIs(w)
			y.Words = func() []uint64 {
				met.add(w.met)
				return w.words
			}
			return y
		}) {
			x.follows(t, p, o, calls)
		}
	}
	return met
}

// histPlay is threads that ask so of a Hist to which these numbers came, by all orders of so many first turns.
type histPlay struct {
	turns int
	ahead []uint64
	asks  [][]come
}

// twin answers a twin that begins so.
func (x histPlay) twin() *histTwin {
	w := &histTwin{}
	for _, v := range x.ahead {
		w.Add(nil, v)
	}
	return w
}

// histsByAllOrders holds what threads are answered against the twin and against the words of P11.4, and answers what the twin's calls met.
func histsByAllOrders(t *testing.T, list ...histPlay) meetings {
	t.Helper()
	var met meetings
	for _, x := range list {
		var o *tally.Hist
		for p, calls := range plays.Twins(t, x.turns, x.asks, func() askedHist {
			o = filled(t, x.ahead...)
			return histIs(o)
		}, func() askedHist {
			w := x.twin()
			y := histIs(w)
			y.Words = func() []uint64 {
				met.add(w.met)
				return w.words[:]
			}
			return y
		}) {
			x.follows(t, p, o, calls)
		}
	}
	return met
}

func TestP111TalliesByAllOrders(t *testing.T) {
	both := one(sum(), parts())
	met := byAllOrders(t,
		play{api.MaxTurns, 1, nil, [][]ask{one(add(0, 5)), one(add(0, 7)), one(sum())}},
		play{api.MaxTurns, 2, nil, [][]ask{one(add(0, 5), add(1, 2)), one(sum())}},
		play{api.MaxTurns, 2, nil, [][]ask{one(add(1, 5), add(0, 2)), one(parts())}},
		play{api.MaxTurns, 2, []uint64{3, 4}, [][]ask{one(add(0, 1), add(1, 1)), one(add(1, 2), add(0, 2)), one(sum())}},
		play{api.MaxTurns, 3, []uint64{1}, [][]ask{one(add(2, 5), add(0, 3)), both}},
		play{10, 2, nil, [][]ask{one(add(0, 1), sum()), one(add(1, 2), parts()), one(sum())}},
		play{9, 3, nil, [][]ask{repeated(add(1, 1), 4), repeated(add(2, 10), 3), both}},
		play{7, 2, []uint64{9, 9}, [][]ask{one(add(0, 1), sum()), one(add(1, 2), sum()), one(add(0, 3), add(1, 4)), both}},
		play{5, 4, nil, [][]ask{one(add(0, 1)), one(add(1, 2)), one(add(2, 3)), one(add(3, 4)), both}},
	)
	if met.missed == 0 || met.found == 0 {
		t.Errorf("%+v", met)
	}
}

// TestP111NumbersThatGoRoundByAllOrders: sums of words are modulo 2^64.
func TestP111NumbersThatGoRoundByAllOrders(t *testing.T) {
	byAllOrders(t,
		play{api.MaxTurns, 2, []uint64{top, top}, [][]ask{one(add(0, 1), add(1, top)), one(sum(), parts())}},
		play{api.MaxTurns, 1, []uint64{top - 1}, [][]ask{one(add(0, 1)), one(add(0, 2)), one(sum())}},
		play{8, 2, []uint64{1 << 63}, [][]ask{one(add(1, 1<<63), sum()), one(add(0, 1<<63), parts()), one(add(2, 1), add(-1, 1), sum())}},
	)
}

// TestP111TalliesOfAllSizesByAllOrders: an Add to the last shard, and to the first one, at each place of a Sum.
func TestP111TalliesOfAllSizesByAllOrders(t *testing.T) {
	for n := 1; n <= api.MaxShards; n++ {
		met := byAllOrders(t,
			play{n, n, nil, [][]ask{one(sum()), one(add(n-1, 5))}},
			play{n, n, nil, [][]ask{one(parts()), one(add(0, 5))}},
		)
		// One look alone misses nothing.
		if met.found == 0 || met.missed == 0 && n > 1 {
			t.Errorf("of %d: %+v", n, met)
		}
	}
}

func TestP112HistsByAllOrders(t *testing.T) {
	met := histsByAllOrders(t,
		histPlay{api.MaxTurns, nil, [][]come{comes(5), comes(9)}},
		histPlay{api.MaxTurns, nil, [][]come{comes(5), comes(5)}},
		histPlay{api.MaxTurns, []uint64{5}, [][]come{comes(4), comes(6)}},
		histPlay{api.MaxTurns, []uint64{top - 1}, [][]come{comes(top), comes(0)}},
		histPlay{api.MaxTurns, nil, [][]come{comes(3), comes(1, 2)}},
		histPlay{8, nil, [][]come{comes(5), comes(6), comes(7)}},
		histPlay{8, []uint64{1}, [][]come{comes(4, 3), comes(2, 5)}},
		histPlay{8, nil, [][]come{comes(top, 1), comes(1<<63, 1<<63)}},
		histPlay{5, nil, [][]come{comes(4, 9), comes(5, 8), comes(6, 7), comes(0, 3)}},
	)
	if met.round == 0 || met.again == 0 || met.overtaken == 0 {
		t.Errorf("%+v", met)
	}
}

func TestP112GetsByAllOrders(t *testing.T) {
	met := histsByAllOrders(t,
		histPlay{10, nil, [][]come{{get()}, comes(5)}},
		histPlay{10, []uint64{9}, [][]come{{get()}, comes(1, 0)}},
		histPlay{7, nil, [][]come{{get()}, comes(2), comes(3)}},
		histPlay{7, nil, [][]come{append(comes(7), get()), append(comes(6), get())}},
	)
	if met.torn == 0 {
		t.Errorf("%+v", met)
	}
}

// places answers, of a call of so many operations, all rising places among them of four operations of another call: ahead of the first one, about this one, and at the end.
func places(about, all int) [][4]int {
	at := slices.Compact([]int{0, about, about + 1, all - 2, all - 1, all})
	var list [][4]int
	for a, first := range at {
		for b, second := range at[a:] {
			for c, third := range at[a+b:] {
				for _, fourth := range at[a+b+c:] {
					list = append(list, [4]int{first, second, third, fourth})
				}
			}
		}
	}
	return list
}

// orderOf answers the order in which thread 1 has its turns at these places among those of thread 0.
func orderOf(at [4]int) []int {
	var order []int
	had := 0
	for _, place := range at {
		order = append(order, slices.Repeat([]int{0}, place-had)...)
		order = append(order, 1)
		had = place
	}
	return order
}

// TestP112AnAddWithinAGet: it is counted in those parts at which the Get had not looked yet.
func TestP112AnAddWithinAGet(t *testing.T) {
	for k := range api.Buckets {
		v := uint64(0)
		if k > 0 {
			v = 1 << (k - 1)
		}
		for _, at := range places(k, 67) {
			o := filled(t)
			_, calls, e := plays.Asked(orderOf(at), [][]come{{get()}, comes(v)}, histIs(o).Of)
			var want api.Hist
			if at[0] <= k {
				want.Counts[k] = 1
			}
			if at[1] <= theSum {
				want.Sum = v
			}
			// Its third operation is the Load.
			if at[3] <= theGreatest {
				want.Max = v
			}
			i := slices.IndexFunc(calls, func(d doneHist) bool { return d.Ask.get })
			if e != api.OK || len(calls) != 2 || calls[i].Answer != (told{hist: want}) {
				t.Errorf("%d at %v: %v, %v, not %v", v, at, e, calls, want)
			}
			has(t, "behind it", o, v)
		}
	}
}

func TestP112ExamplesByOrders(t *testing.T) {
	for _, x := range []struct {
		name   string
		ahead  []uint64
		play   plays.Example[come, told]
		behind []uint64
	}{
		{"two that meet at the greatest one", nil, plays.Example[come, told]{
			Order: []int{0, 0, 0, 1, 1, 1, 1}, Asks: [][]come{comes(5), comes(9)}, Want: []told{{}, {}},
			Threads: []int{0, 0, 0, 1, 1, 1, 1, 0, 0},
			Marks:   slices.Concat(lesserSteps(3), risingSteps(4), []api.Mark{cas(66), load(66)}),
		}, []uint64{5, 9}},
		{"one that goes round, and swaps then", nil, plays.Example[come, told]{
			Order: []int{0, 0, 0, 1, 1, 1, 1}, Asks: [][]come{comes(9), comes(5)}, Want: []told{{}, {}},
			Threads: []int{0, 0, 0, 1, 1, 1, 1, 0, 0, 0},
			Marks:   slices.Concat(lesserSteps(4), risingSteps(3), []api.Mark{cas(66), load(66), cas(66)}),
		}, []uint64{5, 9}},
		{"the same number twice", []uint64{1}, plays.Example[come, told]{
			Order: []int{0, 1, 0, 1, 0, 1, 1}, Asks: [][]come{comes(8), comes(8)}, Want: []told{{}, {}},
			Threads: []int{0, 1, 0, 1, 0, 1, 1, 0, 0},
			Marks:   []api.Mark{added(4), added(4), added(65), added(65), load(66), load(66), cas(66), cas(66), load(66)},
		}, []uint64{1, 8, 8}},
		{"one that is not above what another one has put meanwhile", nil, plays.Example[come, told]{
			Order: []int{0, 0, 1, 1, 1, 1, 0}, Asks: [][]come{comes(3), comes(3)}, Want: []told{{}, {}},
			Threads: []int{0, 0, 1, 1, 1, 1, 0},
			Marks:   slices.Concat(lesserSteps(2)[:2], risingSteps(2), []api.Mark{load(66)}),
		}, []uint64{3, 3}},
	} {
		o := filled(t, x.ahead...)
		plays.AsTold(t, x.name, histIs(o), x.play)
		has(t, x.name, o, x.behind...)
	}
}

func TestP111ExamplesByOrders(t *testing.T) {
	for _, x := range []struct {
		name   string
		play   plays.Example[ask, answer]
		behind []uint64
	}{
		{"a Sum that misses what it has passed, and finds what it has not", plays.Example[ask, answer]{
			Order: []int{0, 1, 1, 0}, Asks: [][]ask{one(sum()), one(add(0, 5), add(1, 7))}, Want: []answer{number(7), number(7)},
			Threads: []int{0, 1, 1, 0}, Marks: []api.Mark{load(0), added(0), added(1), load(1)},
		}, []uint64{5, 7}},
		{"a Parts likewise", plays.Example[ask, answer]{
			Order: []int{0, 1, 1, 0}, Asks: [][]ask{one(parts()), one(add(1, 5), add(0, 7))}, Want: []answer{shards(0, 5), number(7)},
			Threads: []int{0, 1, 1, 0}, Marks: []api.Mark{load(0), added(1), added(0), load(1)},
		}, []uint64{7, 5}},
		{"two that add to one shard", plays.Example[ask, answer]{
			Order: []int{1, 0}, Asks: [][]ask{one(add(1, 5)), one(add(1, 7))}, Want: []answer{number(12), number(7)},
			Threads: []int{1, 0}, Marks: []api.Mark{added(1), added(1)},
		}, []uint64{0, 12}},
	} {
		o := made(t, 2)
		plays.AsTold(t, x.name, asIs(o), x.play)
		holds(t, x.name, o, x.behind...)
	}
}

// TestP112AnAddThatIsOvertaken goes round each time, and ends at last: it has two operations more for each of the others that swapped.
func TestP112AnAddThatIsOvertaken(t *testing.T) {
	for others := range uint64(60) {
		o := filled(t)
		order := []int{0, 0, 0}
		var rising []uint64
		for i := range others {
			order = append(order, 1, 1, 1, 1, 0, 0)
			rising = append(rising, i+1)
		}
		p, calls, e := plays.Asked(order, [][]come{comes(top), comes(rising...)}, histIs(o).Of)
		last := calls[len(calls)-1]
		if e != api.OK || len(p.Cut) != 0 || len(p.Trace) != 4+6*int(others) || last.Thread != 0 {
			t.Errorf("%d others: %v, %d operations, %v", others, e, len(p.Trace), last)
		}
		has(t, "behind them", o, append(rising, top)...)
	}
}

// TestP114WhatIsCutOff: what was done of it stands, the others go on.
func TestP114WhatIsCutOff(t *testing.T) {
	for ops := range 6 {
		o, w := filled(t, 2), histPlay{ahead: []uint64{2}}.twin()
		cut := plays.CutOff(ops, func(g api.Gate) { o.Add(g, 5) })
		plays.CutOff(ops, func(g api.Gate) { w.Add(g, 5) })
		if cut != (ops < 4) {
			t.Errorf("an Add behind %d operations is cut off: %v", ops, cut)
		}
		if got, want := histIs(o).Words(), w.words[:]; !slices.Equal(got, want) {
			t.Errorf("behind %d operations: %v, not %v", ops, got, want)
		}
		plays.Is(t, "behind it", histIs(o), nil, come{v: 4}, told{})
		w.Add(nil, 4)
		if got, want := histIs(o).Words(), w.words[:]; !slices.Equal(got, want) {
			t.Errorf("behind %d operations: %v, not %v", ops, got, want)
		}
	}
	for ops := range 3 {
		x := made(t, 2, 1, 2)
		cut := plays.CutOff(ops, func(g api.Gate) { x.Add(g, 1, 5) })
		want := []uint64{1, 2}
		if ops > 0 {
			want[1] += 5
		}
		if cut != (ops == 0) {
			t.Errorf("an Add behind %d operations is cut off: %v", ops, cut)
		}
		holds(t, fmt.Sprintf("behind %d operations", ops), x, want...)
		if cut := plays.CutOff(ops, func(g api.Gate) { x.Sum(g) }); cut != (ops < 2) {
			t.Errorf("a Sum behind %d operations is cut off: %v", ops, cut)
		}
		holds(t, "behind a Sum", x, want...)
	}
}
