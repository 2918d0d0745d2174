package epoch_test

import (
	"slices"
	"testing"

	"patchbay/api"
	"patchbay/epoch"
	"patchbay/plays"
)

// twin does what the chapter's steps say, by one thread at a time.
type twin struct {
	epoch uint64
	slots []uint64
	met   meetings
}

// meetings are how often calls met others: a Pin that found its slot pinned, one that went round, one that did so a second time, one whose Store stood on another's; an Unpin that found its slot not pinned, one whose Store stood on another's; a Move that found a slot pinned to another epoch, one whose compare and swap did not swap, one that swapped though a slot was pinned to another epoch then.
type meetings struct {
	pinned, round, again, onPinned int
	unpinned, onUnpinned           int
	hindered, lost, behindItsLooks int
}

// become makes it stand so.
func (w *twin) become(x start) {
	w.epoch, w.slots = x.epoch, make([]uint64, x.n)
	copy(w.slots, x.pins)
}

// words answers how it stands, as look does.
func (w *twin) words() []uint64 {
	words := []uint64{w.epoch}
	for _, p := range w.slots {
		words = append(words, kind(w.epoch, p))
	}
	return words
}

func (w *twin) Now(g api.Gate) (uint64, api.Errno) {
	g.Step(load(0))
	return w.epoch, api.OK
}

func (w *twin) Pin(g api.Gate, slot int) (uint64, api.Errno) {
	if slot < 0 || slot >= len(w.slots) {
		return 0, api.ErrRange
	}
	g.Step(load(1 + slot))
	if w.slots[slot] != 0 {
		w.met.pinned++
		return 0, api.ErrPinned
	}
	g.Step(load(0))
	e := w.epoch
	for round := 0; ; round++ {
		g.Step(store(1 + slot))
		if round == 0 && w.slots[slot] != 0 {
			w.met.onPinned++
		}
		w.slots[slot] = e
		g.Step(load(0))
		if w.epoch == e {
			return e, api.OK
		}
		w.met.round++
		if round > 0 {
			w.met.again++
		}
		e = w.epoch
	}
}

func (w *twin) Unpin(g api.Gate, slot int) api.Errno {
	if slot < 0 || slot >= len(w.slots) {
		return api.ErrRange
	}
	g.Step(load(1 + slot))
	if w.slots[slot] == 0 {
		w.met.unpinned++
		return api.ErrPinned
	}
	g.Step(store(1 + slot))
	if w.slots[slot] == 0 {
		w.met.onUnpinned++
	}
	w.slots[slot] = 0
	return api.OK
}

func (w *twin) Move(g api.Gate) (uint64, bool, api.Errno) {
	g.Step(load(0))
	e := w.epoch
	for slot := range w.slots {
		g.Step(load(1 + slot))
		if p := w.slots[slot]; p != 0 && p != e {
			w.met.hindered++
			return 0, false, api.OK
		}
	}
	g.Step(cas(0))
	if w.epoch != e {
		w.met.lost++
		return 0, false, api.OK
	}
	if slices.ContainsFunc(w.slots, func(p uint64) bool { return p != 0 && p != e }) {
		w.met.behindItsLooks++
	}
	w.epoch = e + 1
	return e + 1, true, api.OK
}

func (w *twin) Safe(g api.Gate, epoch uint64) (bool, api.Errno) {
	g.Step(load(0))
	return safeAt(w.epoch, epoch).ok, api.OK
}

// done is a call of a play that has answered; asked is a domain, or its twin, that is asked in plays.
type (
	done  = plays.Done[ask, answer]
	asked = plays.Object[ask, answer]
)

// same tells whether two answers are alike.
func same(a, b answer) bool { return a == b }

// asking answers what asks that object.
func asking(o object) func(a ask, g api.Gate) answer {
	return func(a ask, g api.Gate) answer { return a.of(o, g) }
}

// asIs answers a domain as one that is asked in plays; its words are how it stands behind them.
func asIs(d *epoch.Domain) asked {
	return asked{Of: asking(d), Words: func() []uint64 { return look(d) }, Same: same}
}

// likeIt answers a twin as one that is asked in plays.
func likeIt(w *twin) asked {
	return asked{Of: asking(w), Words: w.words}
}

// play is threads that ask so of a domain that stands so, by all orders of so many first turns.
type play struct {
	turns int
	start start
	asks  [][]ask
}

// byAllOrders holds what threads are answered against the twin, and answers what the twin's calls met.
func byAllOrders(t *testing.T, list ...play) meetings {
	t.Helper()
	w := &twin{}
	for _, x := range list {
		for range plays.Twins(t, x.turns, x.asks, func() asked { return asIs(x.start.domain(t)) }, func() asked {
			w.become(x.start)
			return likeIt(w)
		}) {
		}
	}
	return w.met
}

func TestP92PinsByAllOrders(t *testing.T) {
	met := byAllOrders(t,
		play{api.MaxTurns, at(1, 1), [][]ask{one(pin(0)), moves(1)}},
		play{api.MaxTurns, at(2, 3), [][]ask{one(pin(1)), moves(1)}},
		play{api.MaxTurns, at(1, 1), [][]ask{one(pin(0)), moves(2)}},
		play{12, at(1, 1), [][]ask{one(pin(0), now()), moves(3)}},
		play{8, at(2, 2), [][]ask{one(pin(0)), one(pin(1)), moves(2)}},
		play{9, at(2, 2, 1), [][]ask{one(pin(1)), one(unpin(0)), moves(3)}},
		play{7, at(2, 1), [][]ask{one(pin(0)), one(pin(1)), moves(1), moves(2)}},
	)
	if met.round == 0 || met.again == 0 || met.hindered == 0 || met.lost == 0 || met.behindItsLooks == 0 {
		t.Errorf("%+v", met)
	}
}

func TestP92UnpinsByAllOrders(t *testing.T) {
	met := byAllOrders(t,
		play{api.MaxTurns, at(1, 1, 1), [][]ask{one(unpin(0)), moves(1)}},
		play{api.MaxTurns, at(2, 2, 1, 2), [][]ask{one(unpin(0)), one(unpin(1)), moves(1)}},
		play{api.MaxTurns, at(3, 2, 2, 0, 1), [][]ask{one(unpin(2)), moves(2)}},
		play{12, at(1, 1), [][]ask{in(0), moves(2)}},
		play{12, at(2, 1), [][]ask{append(in(1), in(1)...), moves(2)}},
		play{8, at(2, 3, 2), [][]ask{append(one(unpin(0)), in(0)...), in(1), moves(2)}},
	)
	if met.round == 0 || met.hindered == 0 || met.behindItsLooks == 0 || met.unpinned+met.pinned+met.onPinned+met.onUnpinned != 0 {
		t.Errorf("%+v", met)
	}
}

// TestP92OneSlotOfSeveralByAllOrders: what the steps say holds there, too; what follows is not promised.
func TestP92OneSlotOfSeveralByAllOrders(t *testing.T) {
	met := byAllOrders(t,
		play{api.MaxTurns, at(1, 1), [][]ask{one(pin(0)), one(pin(0))}},
		play{api.MaxTurns, at(2, 2, 0, 1), [][]ask{one(unpin(1)), one(unpin(1))}},
		play{api.MaxTurns, at(2, 2, 0, 1), [][]ask{one(unpin(1)), one(pin(1))}},
		play{12, at(1, 1), [][]ask{in(0), in(0)}},
		play{9, at(1, 1), [][]ask{one(pin(0)), one(pin(0)), moves(2)}},
		play{8, at(2, 1, 1), [][]ask{one(unpin(0), pin(0)), one(unpin(0), pin(0)), moves(2)}},
		play{6, at(1, 1), [][]ask{in(0), in(0), in(0), moves(2)}},
	)
	if met.pinned == 0 || met.unpinned == 0 || met.onPinned == 0 || met.onUnpinned == 0 || met.round == 0 || met.lost != 0 {
		t.Errorf("%+v", met)
	}
}

func TestP92MovesByAllOrders(t *testing.T) {
	met := byAllOrders(t,
		play{api.MaxTurns, at(1, 1), [][]ask{moves(1), moves(1)}},
		play{api.MaxTurns, at(2, 2, 1), [][]ask{moves(1), moves(1)}},
		play{api.MaxTurns, at(2, 2, 0, 2), [][]ask{moves(1), moves(1)}},
		play{11, at(2, 2, 0, 2), [][]ask{moves(2), moves(2)}},
		play{8, at(1, 5), [][]ask{moves(2), moves(2), moves(2)}},
		play{6, at(1, 1), [][]ask{moves(1), moves(1), moves(1), moves(1)}},
	)
	if met.lost == 0 || met.hindered == 0 || met.round+met.pinned+met.unpinned != 0 {
		t.Errorf("%+v", met)
	}
}

func TestP92NowsAndSafesByAllOrders(t *testing.T) {
	byAllOrders(t,
		play{api.MaxTurns, at(1, 1), [][]ask{one(now(), safe(0), safe(1), now()), moves(2)}},
		play{api.MaxTurns, at(1, 2), [][]ask{one(safe(0), safe(1), safe(2)), moves(2)}},
		play{9, at(1, 3), [][]ask{one(safe(1), safe(2), safe(most)), one(now(), safe(3)), moves(2)}},
		play{9, at(1, 1), [][]ask{one(pin(0), now(), safe(1), safe(0)), moves(3)}},
	)
}

// TestP92DomainsOfAllSizesByAllOrders: the last slot of each counts, none behind it is looked at.
func TestP92DomainsOfAllSizesByAllOrders(t *testing.T) {
	for n := 1; n <= api.MaxPins; n++ {
		turns := n + 3
		if n <= 4 {
			turns = api.MaxTurns
		}
		met := byAllOrders(t,
			play{turns, at(n, 2), [][]ask{one(pin(n - 1)), moves(1)}},
			play{turns, at(n, 2, slices.Repeat([]uint64{2}, n)...), [][]ask{moves(2), one(unpin(n - 1))}},
		)
		if met.hindered == 0 || met.round == 0 {
			t.Errorf("of %d: %+v", n, met)
		}
	}
}

func TestP92ExamplesByOrders(t *testing.T) {
	round := []api.Mark{store(1), load(0), store(1), load(0)}
	for _, x := range []struct {
		name string
		n    int
		play plays.Example[ask, answer]
	}{
		{"a Move between Pin's Load and its Store", 2, plays.Example[ask, answer]{
			Order: []int{0, 0, 1, 1, 1, 1, 0, 0, 0, 0}, Asks: [][]ask{one(pin(0)), moves(1)}, Want: []answer{told(2), moved(2)},
			Threads: []int{0, 0, 1, 1, 1, 1, 0, 0, 0, 0},
			Marks:   append([]api.Mark{load(1), load(0), load(0), load(1), load(2), cas(0)}, round...),
		}},
		{"such a Move over one slot", 1, plays.Example[ask, answer]{
			Order: []int{0, 0, 1, 1, 1, 0, 0, 0, 0}, Asks: [][]ask{one(pin(0)), moves(1)}, Want: []answer{told(2), moved(2)},
			Threads: []int{0, 0, 1, 1, 1, 0, 0, 0, 0},
			Marks:   append([]api.Mark{load(1), load(0), load(0), load(1), cas(0)}, round...),
		}},
		{"a Move whose compare and swap comes behind the Pin", 2, plays.Example[ask, answer]{
			Order: []int{0, 0, 1, 1, 1, 0, 0, 0, 0}, Asks: [][]ask{one(pin(0)), moves(1)}, Want: []answer{told(1), moved(2)},
			Threads: []int{0, 0, 1, 1, 1, 0, 0, 1},
			Marks:   []api.Mark{load(1), load(0), load(0), load(1), load(2), store(1), load(0), cas(0)},
		}},
		{"a Move that ends between Pin's Store and its Load", 1, plays.Example[ask, answer]{
			Order: []int{1, 1, 0, 0, 0, 1, 0}, Asks: [][]ask{one(pin(0)), moves(1)}, Want: []answer{told(2), moved(2)},
			Threads: []int{1, 1, 0, 0, 0, 1, 0, 0, 0},
			Marks:   []api.Mark{load(0), load(1), load(1), load(0), store(1), cas(0), load(0), store(1), load(0)},
		}},
		{"a Pin to an older epoch hinders a Move", 1, plays.Example[ask, answer]{
			Order: []int{0, 0, 1, 1, 1, 0, 1, 1, 0}, Asks: [][]ask{one(pin(0)), moves(2)}, Want: []answer{told(2), no()},
			Threads: []int{0, 0, 1, 1, 1, 0, 1, 1, 0, 0, 0},
			Marks:   []api.Mark{load(1), load(0), load(0), load(1), cas(0), store(1), load(0), load(1), load(0), store(1), load(0)},
		}},
		{"two Moves of one epoch", 1, plays.Example[ask, answer]{
			Order: []int{0, 1, 0, 1, 0, 1}, Asks: [][]ask{moves(1), moves(1)}, Want: []answer{moved(2), no()},
			Threads: []int{0, 1, 0, 1, 0, 1},
			Marks:   []api.Mark{load(0), load(0), load(1), load(1), cas(0), cas(0)},
		}},
		{"an Unpin between a Move's looks", 2, plays.Example[ask, answer]{
			Order: []int{0, 0, 0, 0, 0, 1, 1, 0, 1, 1}, Asks: [][]ask{in(1), moves(1)}, Want: []answer{unpinned(), moved(2)},
			Threads: []int{0, 0, 0, 0, 0, 1, 1, 0, 1, 1},
			Marks:   []api.Mark{load(2), load(0), store(2), load(0), load(2), load(0), load(1), store(2), load(2), cas(0)},
		}},
	} {
		plays.AsTold(t, x.name, asIs(made(t, x.n)), x.play)
	}
}
