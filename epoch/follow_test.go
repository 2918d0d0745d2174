package epoch_test

import (
	"math/rand/v2"
	"slices"
	"testing"

	"patchbay/api"
	"patchbay/epoch"
	"patchbay/plays"
)

// pinned is a slot that is held: to which epoch its Pin said that it is pinned, behind how many operations of the play.
type pinned struct {
	epoch uint64
	since int
}

// watched is a domain that is asked in a play, and what can be seen of it between any two operations, by free calls: the epoch behind so many operations, the slots that are held. A slot is one thread's at a time.
type watched struct {
	t      *testing.T
	domain *epoch.Domain
	ops    int
	epochs []uint64
	held   map[int]pinned
	kept   int // how often a Safe was false that is true as soon as nobody holds a slot
}

func watch(t *testing.T, d *epoch.Domain) *watched {
	return &watched{t: t, domain: d, held: map[int]pinned{}}
}

// watching is a gate under which a watched domain is looked at ahead of each operation.
type watching struct {
	gate api.Gate
	w    *watched
}

func (x watching) Step(m api.Mark) {
	x.w.look()
	x.gate.Step(m)
	x.w.ops++
}

// of asks the domain.
func (w *watched) of(a ask, g api.Gate) answer {
	if a.call == doUnpin {
		delete(w.held, a.slot)
	}
	got := a.of(w.domain, watching{g, w})
	if a.call == doPin && got.e == api.OK {
		w.held[a.slot] = pinned{got.epoch, w.ops}
	}
	w.look()
	return got
}

// look notes the epoch, and holds it and all slots that are held against the words of P9.3 and P9.4.
func (w *watched) look() {
	now, _ := w.domain.Now(nil)
	if len(w.epochs) == w.ops {
		w.epochs = append(w.epochs, now)
	}
	if len(w.epochs) != w.ops+1 || w.epochs[w.ops] != now {
		w.t.Errorf("behind %d operations the epoch is %d; it was %v", w.ops, now, w.epochs)
	}
	for slot, x := range w.held {
		if now != x.epoch && now != x.epoch+1 {
			w.t.Errorf("the slot %d is pinned to %d, the epoch is %d", slot, x.epoch, now)
		}
		if now > x.epoch {
			w.kept++
		}
		later := []uint64{x.epoch, x.epoch + 1, x.epoch + 2, most}
		// What was taken away while the slot was held: the epoch behind that.
		for _, e := range append(later, w.epochs[min(x.since, w.ops):]...) {
			if ok, _ := w.domain.Safe(nil, e); ok {
				w.t.Errorf("a slot is pinned to %d, the epoch is %d: Safe(%d)", x.epoch, now, e)
			}
		}
	}
}

// follows holds a play against the words of P9.2, P9.3 and P9.6, and then the domain, which nobody uses any more, against those of P9.5.
func (w *watched) follows(p api.Played, calls []done) {
	t := w.t
	t.Helper()
	if len(w.epochs) != len(p.Trace)+1 {
		t.Fatalf("by %v: %d operations, but the epochs %v", plays.Order(p.Trace), len(p.Trace), w.epochs)
	}
	rose := map[int]bool{}
	for _, d := range calls {
		w.answers(p.Trace, d)
		if d.Ask.call == doMove && d.Answer.ok {
			rose[d.To] = true
		}
	}
	for op := 1; op < len(w.epochs); op++ {
		want := w.epochs[op-1]
		if rose[op] {
			want++
		}
		if w.epochs[op] != want {
			t.Errorf("by %v: the epochs %v; behind %d operations it is not %d", plays.Order(p.Trace), w.epochs, op, want)
		}
	}
	w.goesOn()
	if t.Failed() {
		t.FailNow() // one play that is told is enough
	}
}

// answers holds what a call of a play answers, and how many operations it had, against the epochs that were.
func (w *watched) answers(trace []api.Turned, d done) {
	w.t.Helper()
	had, loaded := 0, []uint64(nil)
	for op := d.From; op <= d.To && op > 0; op++ {
		if trace[op-1].Thread != d.Thread {
			continue
		}
		had++
		if trace[op-1].Mark == load(0) {
			loaded = append(loaded, w.epochs[op])
		}
	}
	now := w.epochs[d.To]
	fits := true
	switch d.Ask.call {
	case doNow:
		fits = d.Answer == told(now) && had == 1
	case doSafe:
		fits = d.Answer == safeAt(now, d.Ask.epoch) && had == 1
	case doPin:
		// Each two loads but the last ones tell of another epoch: it went round because of that.
		rounds := len(slices.Compact(slices.Clone(loaded)))
		fits = d.Answer == told(now) && had == 2+2*rounds && len(loaded) == 1+rounds
	case doUnpin:
		fits = d.Answer == unpinned() && had == 2
	case doMove:
		fits = (d.Answer == no() || d.Answer == moved(loaded[0]+1) && d.Answer == moved(now)) && had <= w.domain.Slots()+2
	}
	if !fits {
		w.t.Errorf("by %v: %v had %d operations, loaded %v; the epochs %v", plays.Order(trace), d, had, loaded, w.epochs)
	}
}

// goesOn holds a domain of which no call is under way against the words of P9.5.
func (w *watched) goesOn() {
	w.t.Helper()
	now, _ := w.domain.Now(nil)
	want := moved(now + 1)
	for _, x := range w.held {
		if x.epoch != now {
			want = no()
		}
	}
	is(w.t, "nobody is under way", w.domain, nil, move(), want)
	for slot := range w.held {
		is(w.t, "held", w.domain, nil, pin(slot), refused(api.ErrPinned))
		is(w.t, "held", w.domain, nil, unpin(slot), unpinned())
	}
	twoLead(w.t, w.domain)
}

// watchedByAllOrders holds such plays against the words of P9.2 to P9.6, and answers how often something was kept because a slot was held.
func watchedByAllOrders(t *testing.T, x play) int {
	t.Helper()
	kept := 0
	var w *watched
	for p, calls := range plays.EveryAsked(t, x.turns, x.asks, func() func(a ask, g api.Gate) answer {
		w = watch(t, x.start.domain(t))
		for slot, e := range x.start.pins {
			if e != 0 {
				w.held[slot] = pinned{e, 0}
			}
		}
		return w.of
	}) {
		w.follows(p, calls)
		kept += w.kept
	}
	return kept
}

func TestP93HeldByAllOrders(t *testing.T) {
	for i, x := range []play{
		{api.MaxTurns, at(1, 1), [][]ask{one(pin(0)), moves(2)}},
		{10, at(1, 4), [][]ask{stay(0), moves(2)}},
		{10, at(1, 1), [][]ask{one(pin(0), safe(1), now()), moves(3)}},
		{11, at(2, 1), [][]ask{append(stay(1), stay(0)...), moves(3)}},
		{8, at(2, 2, 2), [][]ask{one(now(), unpin(0), pin(0)), stay(1), moves(3)}},
		{8, at(1, 1), [][]ask{one(pin(0), now()), moves(2), moves(2)}},
		{6, at(3, 2, 0, 1), [][]ask{one(pin(0), now()), append(one(unpin(1)), stay(1)...), moves(2), moves(2)}},
		{5, at(3, 1), [][]ask{one(pin(0)), one(pin(1)), stay(2), moves(3), moves(2)}},
	} {
		if watchedByAllOrders(t, x) == 0 {
			t.Errorf("%d: the epoch never went on while a slot was held", i)
		}
	}
}

// TestP93MovesAloneByAllOrders: the epoch rises by their answers alone.
func TestP93MovesAloneByAllOrders(t *testing.T) {
	for _, x := range []play{
		{api.MaxTurns, at(1, 1), [][]ask{moves(2), moves(2)}},
		{9, at(2, 5), [][]ask{moves(2), moves(2), append(moves(1), now(), safe(3), safe(4))}},
		{6, at(1, 1), [][]ask{moves(2), moves(2), moves(2), moves(2)}},
	} {
		watchedByAllOrders(t, x)
	}
}

// lister makes lists of calls, always the same ones: it is no chance.
type lister struct{ from *rand.Rand }

// asks answers so many calls of a thread whose slots are these; a slot that it has pinned it unpins, and no other one.
func (l lister) asks(calls int, slots ...int) []ask {
	var list []ask
	isPinned := map[int]bool{}
	for range calls {
		slot := -1
		if len(slots) > 0 {
			slot = slots[l.from.IntN(len(slots))]
		}
		switch k := l.from.IntN(8); {
		case k == 0:
			list = append(list, now())
		case k == 1:
			list = append(list, safe(uint64(l.from.IntN(20))))
		case k < 4 || slot < 0:
			list = append(list, move())
		case isPinned[slot]:
			list = append(list, unpin(slot))
			isPinned[slot] = false
		default:
			list = append(list, pin(slot))
			isPinned[slot] = true
		}
	}
	return list
}

func TestP93LongPlays(t *testing.T) {
	l := lister{rand.New(rand.NewPCG(9, 3))}
	met, kept := meetings{}, 0
	for i := range 480 {
		threads := 2 + i%5
		n := 1 + i%api.MaxPins
		asks := make([][]ask, threads)
		for k := range asks {
			var own []int
			// The last thread has no slots.
			for slot := k; slot < n && k < threads-1; slot += threads - 1 {
				own = append(own, slot)
			}
			asks[k] = l.asks(40, own...)
		}
		x, w := at(n, 1), &twin{met: met}
		w.become(x)
		d := watch(t, x.domain(t))
		p, calls, e := plays.Asked(plays.Drawn(l.from.IntN, 1200, threads, 1+i%24), asks, d.of)
		want, wanted, _ := plays.Asked(plays.Order(p.Trace), asks, asking(w))
		if e != api.OK || len(p.Cut) != 0 || !slices.Equal(p.Trace, want.Trace) || !slices.Equal(calls, wanted) {
			t.Fatalf("by %v: %v, cut %v: not as the steps say", plays.Order(p.Trace), e, p.Cut)
		}
		d.follows(p, calls)
		met, kept = w.met, kept+d.kept
	}
	if met.round == 0 || met.again == 0 || met.hindered == 0 || met.lost == 0 || met.behindItsLooks == 0 || kept == 0 {
		t.Errorf("%+v, kept %d", met, kept)
	}
}

// TestP92LongPlaysOfOneSlot: what the steps say holds where a slot is not one thread's, too.
func TestP92LongPlaysOfOneSlot(t *testing.T) {
	l := lister{rand.New(rand.NewPCG(9, 2))}
	met := meetings{}
	for i := range 300 {
		threads, x := 2+i%5, at(1+i%3, 1)
		asks := make([][]ask, threads)
		for k := range asks {
			asks[k] = l.asks(40, 0, x.n-1)
		}
		d, w := x.domain(t), &twin{met: met}
		w.become(x)
		p, calls, e := plays.Asked(plays.Drawn(l.from.IntN, 1000, threads, 1+i%12), asks, asking(d))
		want, wanted, _ := plays.Asked(plays.Order(p.Trace), asks, asking(w))
		if e != api.OK || len(p.Cut) != 0 || !slices.Equal(p.Trace, want.Trace) || !slices.Equal(calls, wanted) || !slices.Equal(look(d), w.words()) {
			t.Fatalf("by %v: %v, cut %v: not as the steps say", plays.Order(p.Trace), e, p.Cut)
		}
		met = w.met
	}
	if met.pinned == 0 || met.unpinned == 0 || met.onPinned == 0 || met.onUnpinned == 0 || met.round == 0 {
		t.Errorf("%+v", met)
	}
}

// room is where all look for a thing: which one lies there, by its number; those that nobody can hold any more; how often somebody held one that was taken away.
type room struct {
	domain *epoch.Domain
	thing  int
	freed  map[int]bool
	late   int
}

// The words of a play that are no domain's.
const thingWord = 100

// use holds a slot for so many operations, and what lies there; it answers whether that was freed meanwhile.
func (r *room) use(g api.Gate, slot, ops int) bool {
	r.domain.Pin(g, slot)
	g.Step(load(thingWord))
	own, freed := r.thing, false
	for range ops {
		g.Step(load(thingWord + 1))
		freed = freed || r.freed[own]
		if own != r.thing {
			r.late++
		}
	}
	r.domain.Unpin(g, slot)
	return freed
}

// swap takes the thing away, lays another one there, and, when it is safe, frees the one that was there; it tries so often, and answers whether it was.
func (r *room) swap(g api.Gate, tries int) bool {
	g.Step(store(thingWord))
	old := r.thing
	r.thing++
	e, _ := r.domain.Now(g)
	for range tries {
		r.domain.Move(g)
		if ok, _ := r.domain.Safe(g, e); ok {
			r.freed[old] = true
			return true
		}
	}
	return false
}

// TestP94TakenAwayByAllOrders: who holds a slot, and has found the thing, has it till it lets go.
func TestP94TakenAwayByAllOrders(t *testing.T) {
	for i, x := range []struct{ turns, users, swaps, tries int }{
		{11, 1, 1, 2}, {9, 1, 2, 2}, {7, 2, 1, 2}, {6, 2, 2, 2}, {5, 3, 1, 2},
	} {
		freed, kept, late := 0, 0, 0
		var r *room
		for p := range plays.Whole(t, x.turns, func() (threads []func(g api.Gate)) {
			r = &room{domain: made(t, x.users), freed: map[int]bool{}}
			for slot := range x.users {
				threads = append(threads, func(g api.Gate) {
					if r.use(g, slot, 3) {
						t.Errorf("%d: the slot %d is held, and what it found is freed", i, slot)
					}
				})
			}
			for range x.swaps {
				own := r
				threads = append(threads, func(g api.Gate) {
					if own.swap(g, x.tries) {
						freed++
					} else {
						kept++
					}
				})
			}
			return threads
		}) {
			if late += r.late; t.Failed() {
				t.Fatalf("by %v", plays.Order(p.Trace))
			}
			twoLead(t, r.domain)
		}
		if freed == 0 || kept == 0 || late == 0 {
			t.Errorf("%d: freed %d, kept %d, used %d times behind being taken away", i, freed, kept, late)
		}
	}
}

// TestP96RoundsByOthersMoves: each Move between its Store and its Load costs a Pin one round.
func TestP96RoundsByOthersMoves(t *testing.T) {
	for _, n := range []int{1, 2, 5} {
		for rises := range 30 {
			// The slot is pinned to the epoch when a Move looks at it, so the next one is hindered.
			order := []int{0, 0, 0}
			for range rises {
				order = append(order, slices.Repeat([]int{1}, n+2)...)
				order = append(order, 0, 0)
			}
			d := made(t, n)
			p, calls, e := plays.Asked(append(order, 0), [][]ask{one(pin(n - 1)), moves(rises)}, asking(d))
			had := 0
			for _, x := range p.Trace {
				if x.Thread == 0 {
					had++
				}
			}
			last := calls[len(calls)-1]
			if e != api.OK || last.Thread != 0 || last.Answer != told(uint64(rises)+1) || had != 4+2*rises {
				t.Errorf("%d rises: %v, %v had %d operations", rises, e, last, had)
			}
		}
	}
}

// TestP96HinderedMovesCostNothing: where the epoch does not rise a Pin goes round once.
func TestP96HinderedMovesCostNothing(t *testing.T) {
	d := at(2, 2, 1).domain(t)
	var order []int
	for range 4 {
		order = append(order, 1, 1, 1, 1, 0)
	}
	p, calls, e := plays.Asked(order, [][]ask{one(pin(1)), moves(30)}, asking(d))
	want := plays.Trace([]int{0, 0, 0, 0}, pinSteps(1)...)
	own := slices.DeleteFunc(p.Trace, func(x api.Turned) bool { return x.Thread != 0 })
	if e != api.OK || !slices.Equal(own, want) || !slices.ContainsFunc(calls, func(d done) bool { return d.Thread == 0 && d.Answer == told(2) }) {
		t.Errorf("%v: %v", e, own)
	}
	stands(t, "behind it", d, at(2, 2, 1, 2))
}
