package seq_test

import (
	"slices"
	"testing"

	"patchbay/api"
	"patchbay/plays"
	"patchbay/seq"
)

// object is a record, or the twin of one.
type object interface {
	Write(g api.Gate, words ...uint64) (uint64, api.Errno)
	Read(g api.Gate) ([]uint64, uint64, api.Errno)
	Wait(g api.Gate, tries int) ([]uint64, uint64, api.Errno)
}

// twin does what the chapter's steps say, by one thread at a time.
type twin struct {
	version uint64
	words   []uint64
	met     meetings
}

// meetings are how often calls met others: a Write that saw an odd version, a Write whose CAS did not swap, a Read that saw an odd version, a Read that saw another version at its end; how often a Wait went on.
type meetings struct{ busy, lost, odd, torn, again int }

func (w *twin) Write(g api.Gate, words ...uint64) (uint64, api.Errno) {
	g.Step(load(0))
	v := w.version
	if v%2 == 1 {
		w.met.busy++
		return 0, api.ErrBusy
	}
	g.Step(cas(0))
	if w.version != v {
		w.met.lost++
		return 0, api.ErrBusy
	}
	w.version = v + 1
	for i, x := range words {
		g.Step(store(1 + i))
		w.words[i] = x
	}
	g.Step(store(0))
	w.version = v + 2
	return v + 2, api.OK
}

func (w *twin) Read(g api.Gate) ([]uint64, uint64, api.Errno) {
	g.Step(load(0))
	v := w.version
	if v%2 == 1 {
		w.met.odd++
		return nil, 0, api.ErrTorn
	}
	var words []uint64
	for i := range w.words {
		g.Step(load(1 + i))
		words = append(words, w.words[i])
	}
	g.Step(load(0))
	if w.version != v {
		w.met.torn++
		return nil, 0, api.ErrTorn
	}
	return words, v, api.OK
}

func (w *twin) Wait(g api.Gate, tries int) ([]uint64, uint64, api.Errno) {
	words, v, e := w.Read(g)
	if e != api.OK && tries > 1 {
		w.met.again++
		return w.Wait(g, tries-1)
	}
	return words, v, e
}

// ask is a call: a Write of these words; without words a Wait of so many tries; of none a Read.
type ask struct {
	words []uint64
	tries int
}

func doWrite(words ...uint64) ask { return ask{words: words} }
func doRead() ask                 { return ask{} }
func doWait(tries int) ask        { return ask{tries: tries} }

func (a ask) of(o object, g api.Gate) answer {
	switch {
	case a.words != nil:
		return wrote(o.Write(g, a.words...))
	case a.tries > 0:
		return read(o.Wait(g, a.tries))
	}
	return read(o.Read(g))
}

// done is a call of a play that has answered.
type done = plays.Done[ask, answer]

// same tells whether two calls are alike; what they asked counts by its place in the play.
func same(a, b done) bool {
	return a.Thread == b.Thread && a.From == b.From && a.To == b.To && a.Answer.same(b.Answer)
}

// asking answers what asks that object.
func asking(o object) func(a ask, g api.Gate) answer {
	return func(a ask, g api.Gate) answer { return a.of(o, g) }
}

// everyPlay plays what threads do that ask so of a new record, by all orders of so many first turns, and shows each play: the record at its end, and the calls.
func everyPlay(t *testing.T, turns int, start []uint64, asks [][]ask, show func(p api.Played, r *seq.Record, calls []done)) {
	t.Helper()
	var r *seq.Record
	for p, calls := range plays.EveryAsked(t, turns, asks, func() func(a ask, g api.Gate) answer {
		r = made(t, start...)
		return asking(r)
	}) {
		show(p, r, calls)
	}
}

// byAllOrders holds what threads that ask so are answered against the twin, and answers what the twin's calls met.
func byAllOrders(t *testing.T, turns int, start []uint64, asks ...[]ask) meetings {
	t.Helper()
	var met meetings
	everyPlay(t, turns, start, asks, func(p api.Played, r *seq.Record, calls []done) {
		w := &twin{words: slices.Clone(start), met: met}
		q, want, _ := plays.Asked(plays.Order(p.Trace), asks, asking(w))
		if !slices.Equal(p.Trace, q.Trace) || !slices.EqualFunc(calls, want, same) {
			t.Fatalf("by %v: %v, %v; not %v, %v", plays.Order(p.Trace), p.Trace, calls, q.Trace, want)
		}
		recordIs(t, "at the end", r, w.version, w.words...)
		met = w.met
	})
	return met
}

func TestP52WritesByAllOrders(t *testing.T) {
	for i, x := range []struct {
		turns int
		asks  [][]ask
	}{
		{api.MaxTurns, [][]ask{{doWrite(7, 8)}, {doWrite(9, 9)}}},
		{api.MaxTurns, [][]ask{{doWrite(7, 8), doWrite(5, 6)}, {doWrite(9, 9)}}},
		{9, [][]ask{{doWrite(7, 8)}, {doWrite(9, 9)}, {doWrite(3, 4)}}},
		{6, [][]ask{{doWrite(7, 8)}, {doWrite(9, 9)}, {doWrite(3, 4)}, {doWrite(1, 2)}}},
	} {
		if met := byAllOrders(t, x.turns, []uint64{5, 6}, x.asks...); met.busy == 0 || met.lost == 0 {
			t.Errorf("%d: %v", i, met)
		}
	}
}

func TestP53ReadsByAllOrders(t *testing.T) {
	for i, x := range []struct {
		turns int
		asks  [][]ask
	}{
		{api.MaxTurns, [][]ask{{doRead()}, {doWrite(7, 8)}}},
		{10, [][]ask{{doRead()}, {doWrite(7, 8), doWrite(5, 6)}}},
		{10, [][]ask{{doRead(), doRead()}, {doWrite(7, 8), doRead()}}},
		{8, [][]ask{{doRead()}, {doRead()}, {doWrite(7, 8)}}},
		{8, [][]ask{{doRead()}, {doWrite(9, 9)}, {doWrite(7, 8)}}},
	} {
		if met := byAllOrders(t, x.turns, []uint64{5, 6}, x.asks...); met.odd == 0 || met.torn == 0 {
			t.Errorf("%d: %v", i, met)
		}
	}
	if met := byAllOrders(t, 9, []uint64{5, 6}, []ask{doRead(), doRead()}, []ask{doRead()}, []ask{doRead()}); met != (meetings{}) {
		t.Errorf("Reads alone: %v", met)
	}
}

func TestP54WaitsByAllOrders(t *testing.T) {
	for i, x := range []struct {
		turns int
		asks  [][]ask
	}{
		{api.MaxTurns, [][]ask{{doWait(1)}, {doWrite(7, 8)}}},
		{api.MaxTurns, [][]ask{{doWait(2)}, {doWrite(7, 8)}}},
		{10, [][]ask{{doWait(3)}, {doWrite(7, 8)}}},
		{10, [][]ask{{doWait(2)}, {doWrite(7, 8), doWrite(5, 6)}}},
		{8, [][]ask{{doWait(3)}, {doWrite(9, 9)}, {doWrite(7, 8)}}},
		{8, [][]ask{{doWait(api.MaxTurns)}, {doWait(2), doRead()}, {doWrite(7, 8)}}},
	} {
		if met := byAllOrders(t, x.turns, []uint64{5, 6}, x.asks...); met.odd == 0 || met.torn == 0 || (met.again == 0) != (i == 0) {
			t.Errorf("%d: %v", i, met)
		}
	}
}

func TestP55RecordsOfAllSizesByAllOrders(t *testing.T) {
	byAllOrders(t, 10, several(1, 0), []ask{doWrite(several(1, 1)...), doRead()}, []ask{doRead(), doWrite(several(1, 2)...)})
	byAllOrders(t, 7, several(1, 0), []ask{doWrite(7), doWait(2)}, []ask{doWrite(8)}, []ask{doWait(2)}, []ask{doRead()})
	for n := 1; n <= api.MaxWords; n++ {
		byAllOrders(t, 6, several(n, 0), []ask{doWrite(several(n, 1)...), doRead()}, []ask{doRead(), doWrite(several(n, 2)...)})
	}
}

func TestP55ExamplesByOrders(t *testing.T) {
	for _, x := range []struct {
		name    string
		order   []int
		asks    [][]ask
		want    []answer
		threads []int
		marks   []api.Mark
	}{
		{"a Read that sees 1", []int{0, 0, 1}, [][]ask{{doWrite(7, 8)}, {doRead()}},
			[]answer{{nil, 2, api.OK}, {nil, 0, api.ErrTorn}},
			[]int{0, 0, 1, 0, 0, 0}, []api.Mark{load(0), cas(0), load(0), store(1), store(2), store(0)}},
		{"a Write within a Read", []int{0, 0, 1, 1, 1, 1, 1, 0, 0}, [][]ask{{doRead()}, {doWrite(7, 8)}},
			[]answer{{nil, 0, api.ErrTorn}, {nil, 2, api.OK}},
			[]int{0, 0, 1, 1, 1, 1, 1, 0, 0}, []api.Mark{load(0), load(1), load(0), cas(0), store(1), store(2), store(0), load(2), load(0)}},
		{"a CAS that does not swap", []int{0, 1, 0, 1}, [][]ask{{doWrite(7, 8)}, {doWrite(9, 9)}},
			[]answer{{nil, 2, api.OK}, {nil, 0, api.ErrBusy}},
			[]int{0, 1, 0, 1, 0, 0, 0}, []api.Mark{load(0), load(0), cas(0), cas(0), store(1), store(2), store(0)}},
		{"a CAS behind a whole Write", []int{1, 0, 0, 0, 0, 0, 1}, [][]ask{{doWrite(7, 8)}, {doWrite(9, 9)}},
			[]answer{{nil, 2, api.OK}, {nil, 0, api.ErrBusy}},
			[]int{1, 0, 0, 0, 0, 0, 1}, []api.Mark{load(0), load(0), cas(0), store(1), store(2), store(0), cas(0)}},
		{"a Wait that reads a second time", []int{1, 1, 0, 1, 1, 1}, [][]ask{{doWait(2)}, {doWrite(7, 8)}},
			[]answer{{[]uint64{7, 8}, 2, api.OK}, {nil, 2, api.OK}},
			[]int{1, 1, 0, 1, 1, 1, 0, 0, 0, 0}, []api.Mark{load(0), cas(0), load(0), store(1), store(2), store(0), load(0), load(1), load(2), load(0)}},
	} {
		p, calls, e := plays.Asked(x.order, x.asks, asking(made(t, 5, 6)))
		if want := plays.Trace(x.threads, x.marks...); e != api.OK || !slices.Equal(p.Trace, want) {
			t.Errorf("%s: %v, %v, not %v", x.name, e, p.Trace, want)
		}
		for _, d := range calls {
			is(t, x.name, d.Answer, x.want[d.Thread])
		}
	}
}
