package hold_test

import (
	"maps"
	"slices"
	"testing"

	"patchbay/api"
	"patchbay/epoch"
	"patchbay/gates"
	"patchbay/plays"
)

// twin does what the chapter's steps say, by one thread at a time.
type twin struct {
	domain  *epoch.Domain
	value   string
	version uint64
	kept    map[uint64]out
	met     meetings
}

// out is a value that was swapped out, and its epoch.
type out struct {
	value string
	epoch uint64
}

// meetings are how often calls met others: an Enter that was refused, one that found a later version than that which was published behind its Pin; a Put whose compare and swap did not swap, for the first time and again; a Try that found another version, one whose compare and swap did not swap; something kept behind something later, something kept of a later epoch than that in which it was swapped out; a Free that was hindered, or whose compare and swap did not swap, that nevertheless freed; one that freed, and left others.
type meetings struct {
	refused, later       int
	round, again         int
	another, lost        int
	lateKept, laterEpoch int
	unmoved, left        int
}

// add counts those of another play, too.
func (m *meetings) add(x meetings) {
	m.refused += x.refused
	m.later += x.later
	m.round += x.round
	m.again += x.again
	m.another += x.another
	m.lost += x.lost
	m.lateKept += x.lateKept
	m.laterEpoch += x.laterEpoch
	m.unmoved += x.unmoved
	m.left += x.left
}

// twinOf answers a twin that begins so.
func (x start) twin() *twin {
	d, _ := epoch.New(x.n)
	w := &twin{domain: d, value: "a", version: 1, kept: map[uint64]out{}}
	for _, a := range x.ahead {
		a.of(w, nil)
	}
	w.met = meetings{}
	return w
}

func (w *twin) Now(g api.Gate) (string, uint64, api.Errno) {
	gates.Tell(g, api.OpLoad, 0)
	return w.value, w.version, api.OK
}

func (w *twin) Enter(g api.Gate, slot int) (string, uint64, api.Errno) {
	if _, e := w.domain.Pin(g, slot); e != api.OK {
		w.met.refused++
		return "", 0, e
	}
	pinned := w.version
	gates.Tell(g, api.OpLoad, 0)
	if w.version != pinned {
		w.met.later++
	}
	return w.value, w.version, api.OK
}

func (w *twin) Leave(g api.Gate, slot int) api.Errno {
	return w.domain.Unpin(g, slot)
}

// swap does what comes behind a Load that found the version n.
func (w *twin) swap(g api.Gate, n uint64, v string) bool {
	gates.Tell(g, api.OpCAS, 0)
	if w.version != n {
		return false
	}
	was := w.value
	w.value, w.version = v, n+1
	ahead, _ := w.domain.Now(nil)
	e, _ := w.domain.Now(g)
	if e != ahead {
		w.met.laterEpoch++
	}
	for m := range w.kept {
		if m > n {
			w.met.lateKept++
		}
	}
	w.kept[n] = out{was, e}
	return true
}

func (w *twin) Put(g api.Gate, v string) (uint64, api.Errno) {
	for round := 0; ; round++ {
		gates.Tell(g, api.OpLoad, 0)
		n := w.version
		if w.swap(g, n, v) {
			return n + 1, api.OK
		}
		w.met.round++
		if round > 0 {
			w.met.again++
		}
	}
}

func (w *twin) Try(g api.Gate, version uint64, v string) (uint64, bool, api.Errno) {
	gates.Tell(g, api.OpLoad, 0)
	if w.version != version {
		w.met.another++
		return 0, false, api.OK
	}
	if !w.swap(g, version, v) {
		w.met.lost++
		return 0, false, api.OK
	}
	return version + 1, true, api.OK
}

func (w *twin) Free(g api.Gate) ([]uint64, api.Errno) {
	_, moved, _ := w.domain.Move(g)
	e, _ := w.domain.Now(g)
	var freed []uint64
	for _, n := range w.Kept() {
		if w.kept[n].epoch+2 <= e {
			freed = append(freed, n)
			delete(w.kept, n)
		}
	}
	if len(freed) > 0 && !moved {
		w.met.unmoved++
	}
	if len(freed) > 0 && len(w.kept) > 0 {
		w.met.left++
	}
	return freed, api.OK
}

func (w *twin) Kept() []uint64 {
	return slices.Sorted(maps.Keys(w.kept))
}

func (w *twin) Old(version uint64) (string, bool) {
	if version == w.version {
		return w.value, true
	}
	x, ok := w.kept[version]
	return x.value, ok
}

// done is a call of a play that has answered; asked is a hold, or its twin, that is asked in plays.
type (
	done  = plays.Done[ask, answer]
	asked = plays.Object[ask, answer]
)

// asking answers what asks that object.
func asking(o object) func(a ask, g api.Gate) answer {
	return func(a ask, g api.Gate) answer { return a.of(o, g) }
}

// asIs answers an object of so many slots as one that is asked in plays; its words are how it stands behind them.
func asIs(o object, slots int) asked {
	return asked{Of: asking(o), Words: func() []uint64 { return look(o, slots) }, Same: same}
}

// play is threads that ask so of a hold that begins so, by all orders of so many first turns.
type play struct {
	turns int
	start start
	asks  [][]ask
}

// byAllOrders holds what threads are answered against the twin, and answers what the twin's calls met.
func byAllOrders(t *testing.T, list ...play) meetings {
	t.Helper()
	var met meetings
	for _, x := range list {
		for range plays.Twins(t, x.turns, x.asks, func() asked { return asIs(x.start.hold(t), x.start.n) }, func() asked {
			w := x.start.twin()
			return asked{Of: asking(w), Words: func() []uint64 {
				met.add(w.met)
				return look(w, x.start.n)
			}}
		}) {
		}
	}
	return met
}

func TestP102EntersAndLeavesByAllOrders(t *testing.T) {
	met := byAllOrders(t,
		play{api.MaxTurns, from(1), [][]ask{in(0), one(put("b"))}},
		play{api.MaxTurns, from(2), [][]ask{one(enter(1)), one(put("b"), put("c"))}},
		play{api.MaxTurns, from(2, put("b")), [][]ask{one(enter(0), leave(1), leave(0)), one(try(2, "c"))}},
		play{api.MaxTurns, from(1), [][]ask{one(enter(0)), one(free(), put("b"))}},
		play{8, from(2), [][]ask{in(0), in(1), one(put("b"), free())}},
		play{11, from(1, put("b"), free()), [][]ask{stay(0, 1), one(put("c"), free(), free())}},
		play{6, from(3, enter(2)), [][]ask{stay(0, 1), stay(1, 1), one(leave(2), put("b")), frees(2)}},
	)
	if met.later == 0 || met.refused != 0 || met.round+met.lost != 0 {
		t.Errorf("%+v", met)
	}
}

// TestP102OneSlotOfSeveralByAllOrders: what the steps say holds there, too; what follows is not promised.
func TestP102OneSlotOfSeveralByAllOrders(t *testing.T) {
	met := byAllOrders(t,
		play{api.MaxTurns, from(1), [][]ask{one(enter(0)), one(enter(0))}},
		play{api.MaxTurns, from(2, enter(1)), [][]ask{one(leave(1)), one(leave(1))}},
		play{9, from(1), [][]ask{in(0), in(0), one(put("b"))}},
		play{8, from(1), [][]ask{in(0), in(0), one(put("b"), free(), free())}},
	)
	if met.refused == 0 {
		t.Errorf("%+v", met)
	}
}

func TestP103PutsByAllOrders(t *testing.T) {
	met := byAllOrders(t,
		play{api.MaxTurns, from(1), [][]ask{one(put("b")), one(put("c"))}},
		play{api.MaxTurns, from(1), [][]ask{one(put("b"), put("c")), one(put("d"))}},
		play{api.MaxTurns, from(2, put("z")), [][]ask{one(put("b")), one(put("c")), one(now(), now())}},
		play{9, from(1), [][]ask{one(put("b")), one(put("c")), one(put("d"))}},
		play{9, from(1), [][]ask{one(put("b"), put("b")), one(put("c"), put("a"))}},
		play{6, from(1, enter(0)), [][]ask{one(put("b")), one(put("c")), one(put("d")), one(put("e"))}},
	)
	if met.round == 0 || met.again == 0 || met.lateKept == 0 || met.another+met.lost != 0 {
		t.Errorf("%+v", met)
	}
}

func TestP103TrysByAllOrders(t *testing.T) {
	met := byAllOrders(t,
		play{api.MaxTurns, from(1), [][]ask{one(try(1, "b")), one(try(1, "c"))}},
		play{api.MaxTurns, from(1), [][]ask{one(try(1, "b")), one(put("c"))}},
		play{api.MaxTurns, from(1), [][]ask{one(try(1, "b"), try(2, "c")), one(try(1, "d"), try(2, "e"))}},
		play{api.MaxTurns, from(1), [][]ask{one(try(2, "b")), one(try(1, "c"))}},
		play{10, from(2, put("z")), [][]ask{one(try(2, "b")), one(try(2, "c")), one(try(3, "d"))}},
		play{9, from(1), [][]ask{one(try(1, "a"), now()), one(try(1, "a"), now()), one(put("a"), try(2, "a"))}},
		play{7, from(1), [][]ask{one(try(1, "b")), one(try(1, "c")), one(try(1, "d")), one(try(2, "e"))}},
	)
	if met.another == 0 || met.lost == 0 || met.round == 0 || met.lateKept == 0 {
		t.Errorf("%+v", met)
	}
}

func TestP104FreesByAllOrders(t *testing.T) {
	met := byAllOrders(t,
		play{api.MaxTurns, from(1, put("b")), [][]ask{frees(1), frees(1)}},
		play{api.MaxTurns, from(1), [][]ask{one(put("b")), frees(2)}},
		play{api.MaxTurns, from(2, put("b"), free()), [][]ask{one(put("c")), frees(1)}},
		play{10, from(1, put("b"), free(), put("c")), [][]ask{frees(2), frees(2)}},
		play{8, from(1, put("b")), [][]ask{one(put("c")), one(put("d")), frees(3)}},
		play{9, from(1, put("b"), enter(0), put("c"), free()), [][]ask{one(leave(0)), one(put("d")), frees(3)}},
		play{6, from(2, put("b"), free()), [][]ask{one(put("c")), stay(1, 1), frees(2), frees(2)}},
		play{6, from(1, put("b"), put("c")), [][]ask{frees(1), frees(1), frees(1), frees(1)}},
	)
	if met.lateKept == 0 || met.laterEpoch == 0 || met.unmoved == 0 || met.left == 0 {
		t.Errorf("%+v", met)
	}
}

// TestP104KeptAndOldByAllOrders: they have no operations, and tell what there is whoever is held up.
func TestP104KeptAndOldByAllOrders(t *testing.T) {
	looks := one(kept(), old(1), old(2), old(3), now(), kept(), old(1), old(2), now(), old(3), old(4), kept(), now(), kept(), old(1))
	met := byAllOrders(t,
		play{api.MaxTurns, from(1), [][]ask{looks, one(put("b"))}},
		play{api.MaxTurns, from(1), [][]ask{looks, one(put("b"), put("c"))}},
		play{api.MaxTurns, from(1, put("b")), [][]ask{looks, frees(2)}},
		play{8, from(1), [][]ask{looks, one(put("b")), one(put("c"), free(), free())}},
		play{8, from(2), [][]ask{looks, append(one(put("b")), frees(2)...), in(1)}},
	)
	if met.round == 0 || met.lateKept == 0 || met.left == 0 {
		t.Errorf("%+v", met)
	}
}

// TestP104HoldsOfAllSizesByAllOrders: the last slot of each counts, none behind it is looked at.
func TestP104HoldsOfAllSizesByAllOrders(t *testing.T) {
	for n := 1; n <= api.MaxPins; n++ {
		met := byAllOrders(t,
			play{6, from(n, put("b"), free()), [][]ask{in(n - 1), frees(2)}},
			play{n + 5, from(n, enter(n-1), put("b"), free()), [][]ask{frees(2), one(leave(n - 1))}},
			play{n + 3, from(n, put("b"), free()), [][]ask{frees(1), one(put("c"))}},
		)
		if met.left == 0 || met.laterEpoch == 0 {
			t.Errorf("of %d: %+v", n, met)
		}
	}
}

func TestP104ExamplesByOrders(t *testing.T) {
	for _, x := range []struct {
		name  string
		start start
		play  plays.Example[ask, answer]
	}{
		{"a Put between Pin and Load", from(1), plays.Example[ask, answer]{
			Order: []int{0, 0, 0, 0, 1, 1, 1, 0}, Asks: [][]ask{one(enter(0)), one(put("b"))}, Want: []answer{shown("b", 2), did(2)},
			Threads: []int{0, 0, 0, 0, 1, 1, 1, 0},
			Marks:   slices.Concat(enterSteps(0)[:4], putSteps(), []api.Mark{load(0)}),
		}},
		{"a Put that begins anew", from(1), plays.Example[ask, answer]{
			Order: []int{0, 1, 1, 0, 0, 1, 0, 0}, Asks: [][]ask{one(put("b")), one(put("c"))}, Want: []answer{did(3), did(2)},
			Threads: []int{0, 1, 1, 0, 0, 1, 0, 0},
			Marks:   []api.Mark{load(0), load(0), cas(0), cas(0), load(0), load(0), cas(0), load(0)},
		}},
		{"a Try that comes too late", from(1), plays.Example[ask, answer]{
			Order: []int{0, 1, 1, 0}, Asks: [][]ask{one(try(1, "b")), one(put("c"))}, Want: []answer{none(), did(2)},
			Threads: []int{0, 1, 1, 0, 1},
			Marks:   []api.Mark{load(0), load(0), cas(0), cas(0), load(0)},
		}},
		{"two Trys that both find it", from(1), plays.Example[ask, answer]{
			Order: []int{1, 0, 0, 1, 0}, Asks: [][]ask{one(try(1, "b")), one(try(1, "c"))}, Want: []answer{tried(2), none()},
			Threads: []int{1, 0, 0, 1, 0},
			Marks:   []api.Mark{load(0), load(0), cas(0), cas(0), load(0)},
		}},
		{"what is swapped out stands in neither yet", from(1), plays.Example[ask, answer]{
			Order: []int{0, 0, 1, 0}, Asks: [][]ask{one(put("b")), one(now(), old(1))}, Want: []answer{did(2), none()},
			Threads: []int{0, 0, 1, 0},
			Marks:   []api.Mark{load(0), cas(0), load(0), load(0)},
		}},
		{"a Free between a swap and its Now", from(1), plays.Example[ask, answer]{
			Order: []int{0, 0, 1, 1, 1, 1, 0, 1}, Asks: [][]ask{one(put("b")), frees(2)}, Want: []answer{did(2), none()},
			Threads: []int{0, 0, 1, 1, 1, 1, 0, 1, 1, 1, 1},
			Marks:   slices.Concat(putSteps()[:2], freeSteps(1), []api.Mark{load(0)}, freeSteps(1)),
		}},
		{"two Frees, of which one moves and the other one frees", from(1, put("b"), free()), plays.Example[ask, answer]{
			Order: []int{0, 0, 0, 1, 1, 1, 1, 0}, Asks: [][]ask{frees(1), frees(1)}, Want: []answer{none(), versions(1)},
			Threads: []int{0, 0, 0, 1, 1, 1, 1, 0},
			Marks:   slices.Concat(freeSteps(1)[:3], freeSteps(1), []api.Mark{load(0)}),
		}},
		{"who is pinned to an older epoch hinders", from(2, put("b"), enter(1)), plays.Example[ask, answer]{
			Asks: [][]ask{frees(2)}, Want: []answer{none()}, Threads: make([]int, 9),
			Marks: append(freeSteps(2), hinderedSteps(1)...),
		}},
	} {
		plays.AsTold(t, x.name, asIs(x.start.hold(t), x.start.n), x.play)
	}
}
