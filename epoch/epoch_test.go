package epoch_test

import (
	"math"
	"slices"
	"testing"

	"patchbay/api"
	"patchbay/epoch"
	"patchbay/plays"
	"patchbay/turn"
)

func TestP91NewThatMayNotBe(t *testing.T) {
	wrong := []int{0, -1, -2, -api.MaxPins, api.MaxPins + 1, api.MaxPins + 2, 2 * api.MaxPins, 64, 256, 257, 1 << 16, 1<<16 + 1,
		1 << 31, 1<<31 + 1, 1 << 32, 1<<32 + 1, 1 << 62, math.MaxInt, math.MinInt, math.MinInt + 1, math.MinInt + api.MaxPins}
	for _, n := range wrong {
		if d, e := epoch.New(n); d != nil || e != api.ErrArg {
			t.Errorf("New(%d): %v, %v", n, d, e)
		}
	}
}

func TestP91NewAndSlots(t *testing.T) {
	for n := 1; n <= api.MaxPins; n++ {
		d := made(t, n)
		is(t, "New", d, nil, now(), told(1))
		for slot := range n {
			is(t, "New", d, nil, unpin(slot), refused(api.ErrPinned))
		}
		stands(t, "New", d, at(n, 1))
		// However it stands, it has as many.
		is(t, "New", d, nil, pin(n-1), told(2))
		is(t, "New", d, nil, move(), moved(3))
		is(t, "New", d, nil, move(), no())
		if got := d.Slots(); got != n {
			t.Errorf("Slots: %d, not %d", got, n)
		}
	}
}

func TestP91DomainsAreTheirOwn(t *testing.T) {
	a, b := made(t, 2), made(t, 2)
	a.Move(nil)
	a.Pin(nil, 0)
	b.Pin(nil, 1)
	stands(t, "a", a, at(2, 2, 2))
	stands(t, "b", b, at(2, 1, 0, 1))
}

func TestP92Examples(t *testing.T) {
	d := made(t, 2)
	for i, x := range []struct {
		ask  ask
		want answer
	}{
		{now(), told(1)}, {move(), moved(2)}, {pin(0), told(2)}, {pin(0), refused(api.ErrPinned)},
		{pin(2), refused(api.ErrRange)}, {unpin(1), refused(api.ErrPinned)},
		{move(), moved(3)}, {move(), no()}, {safe(1), yes()}, {safe(2), no()}, {unpin(0), unpinned()}, {move(), moved(4)}, {safe(2), yes()},
	} {
		if got := x.ask.of(d, nil); got != x.want {
			t.Errorf("%d: %v: %v, not %v", i, x.ask, got, x.want)
		}
	}
	stands(t, "behind them", d, at(2, 4))
	d = made(t, 2)
	tells(t, "an example", d, pin(1), told(1), load(2), load(0), store(2), load(0))
	d = at(2, 2, 1).domain(t)
	tells(t, "an example", d, move(), no(), load(0), load(1))
}

func TestP92OperationsOfAllSizes(t *testing.T) {
	for n := 1; n <= api.MaxPins; n++ {
		d := made(t, n)
		for e := uint64(1); e < 6; e++ {
			tells(t, "Now", d, now(), told(e), load(0))
			for slot := range n {
				tells(t, "not pinned", d, unpin(slot), refused(api.ErrPinned), load(1+slot))
				tells(t, "not pinned", d, pin(slot), told(e), pinSteps(slot)...)
				tells(t, "pinned", d, pin(slot), refused(api.ErrPinned), load(1+slot))
			}
			tells(t, "all are pinned to it", d, move(), moved(e+1), moveSteps(n)...)
			for slot := range n {
				tells(t, "pinned to an older one", d, move(), no(), looks(slot+1)...)
				tells(t, "pinned to an older one", d, pin(slot), refused(api.ErrPinned), load(1+slot))
				tells(t, "pinned", d, unpin(slot), unpinned(), unpinSteps(slot)...)
			}
			for _, old := range []uint64{0, e - 1, e, e + 1, e + 2, most} {
				tells(t, "Safe", d, safe(old), safeAt(e+1, old), load(0))
			}
		}
		tells(t, "none is pinned", d, move(), moved(7), moveSteps(n)...)
		stands(t, "behind all", d, at(n, 7))
	}
}

// TestP92FreeCallsAnswerTheSame: a gate that is nil is told nothing.
func TestP92FreeCallsAnswerTheSame(t *testing.T) {
	for n := 1; n <= api.MaxPins; n++ {
		d, w := made(t, n), &twin{}
		w.become(at(n, 1))
		for i := range 300 {
			a := []ask{now(), pin(i * 7 % n), move(), safe(uint64(i / 8)), unpin(i * 5 % n), move(), pin(n), unpin(-1)}[i*3%8]
			is(t, "free", d, nil, a, a.of(w, turn.NewNotes()))
		}
		if got := look(d); !slices.Equal(got, w.words()) {
			t.Errorf("of %d: %v, not %v", n, got, w.words())
		}
	}
}

func TestP92Safe(t *testing.T) {
	d := made(t, 1)
	for e := uint64(1); e < 70; e++ {
		for old := range e + 3 {
			is(t, "Safe", d, nil, safe(old), safeAt(e, old))
		}
		for _, old := range []uint64{1 << 8, 1 << 16, 1 << 31, 1 << 32, 1<<32 + 1, 1 << 63, 1<<63 - 1, most - 2, most - 1, most} {
			is(t, "a later one", d, nil, safe(old), no())
		}
		is(t, "Move", d, nil, move(), moved(e+1))
	}
}

func TestP92SlotsThatAreNone(t *testing.T) {
	for n := 1; n <= api.MaxPins; n++ {
		d := at(n, 3, 2).domain(t)
		for _, slot := range []int{-1, -2, -n, n, n + 1, api.MaxPins, api.MaxPins + 1, 255, 256, 1 << 16, 1 << 32, 1<<32 + n - 1, 1 << 62,
			math.MaxInt, math.MinInt, math.MinInt + n - 1} {
			for _, a := range []ask{pin(slot), unpin(slot)} {
				tells(t, "none", d, a, refused(api.ErrRange))
				is(t, "none", d, nil, a, refused(api.ErrRange))
			}
		}
		stands(t, "behind them", d, at(n, 3, 2))
	}
}

func TestP92RefusalsChangeNothing(t *testing.T) {
	x := at(4, 3, 2, 0, 3)
	d := x.domain(t)
	for range 3 {
		is(t, "pinned to an older one", d, nil, pin(0), refused(api.ErrPinned))
		is(t, "pinned", d, nil, pin(2), refused(api.ErrPinned))
		is(t, "not pinned", d, nil, unpin(1), refused(api.ErrPinned))
		is(t, "not pinned", d, nil, unpin(3), refused(api.ErrPinned))
		is(t, "hindered", d, nil, move(), no())
	}
	stands(t, "behind them", d, x)
}

func TestP92DomainsThatAreNone(t *testing.T) {
	whole := at(2, 2, 1).domain(t)
	for name, d := range map[string]*epoch.Domain{"nil": nil, "a zero value": {}, "new": new(epoch.Domain), "a copy": plays.Copied(whole)} {
		// ErrNil comes ahead of all else: there is no such slot, either.
		for _, a := range []ask{now(), pin(0), pin(1), pin(-1), pin(2), pin(99), unpin(0), unpin(1), unpin(-1), unpin(99), move(), safe(0), safe(1), safe(most)} {
			tells(t, name, d, a, refused(api.ErrNil))
			is(t, name, d, nil, a, refused(api.ErrNil))
		}
		if n := d.Slots(); n != 0 {
			t.Errorf("%s: Slots: %d", name, n)
		}
	}
	stands(t, "the whole one", whole, at(2, 2, 1))
}

func TestP92AGateThatIsANilPointer(t *testing.T) {
	// It is no nil interface: it is told, and does nothing.
	d := made(t, 1)
	g := (*turn.Notes)(nil)
	is(t, "such a gate", d, g, pin(0), told(1))
	is(t, "such a gate", d, g, pin(0), refused(api.ErrPinned))
	is(t, "such a gate", d, g, move(), moved(2))
	is(t, "such a gate", d, g, move(), no())
	is(t, "such a gate", d, g, now(), told(2))
	is(t, "such a gate", d, g, unpin(0), unpinned())
	is(t, "such a gate", d, g, safe(0), yes())
}

// TestP95AloneItGoesOn: with any slots pinned to the epoch a Move says true, with any pinned to another one false.
func TestP95AloneItGoesOn(t *testing.T) {
	for _, n := range []int{1, 2, 3, 5} {
		for row := range 1 << (2 * n) {
			x := at(n, 3)
			want := moved(4)
			for slot := range n {
				p := []uint64{0, 3, 2, 0}[row>>(2*slot)&3]
				if p == 2 {
					want = no()
				}
				x.pins = append(x.pins, p)
			}
			d := x.domain(t)
			is(t, "alone", d, nil, move(), want)
			if want == no() {
				is(t, "hindered", d, nil, now(), told(3))
			}
			// Those that are pinned to it hinder the next one.
			if slices.Contains(x.pins, 3) {
				is(t, "the next one", d, nil, move(), no())
			}
			for slot, p := range x.pins {
				if p != 0 {
					is(t, "pinned", d, nil, unpin(slot), unpinned())
				}
			}
			twoLead(t, d)
		}
	}
}

// twoLead ends in an error, unless two Moves lead from the epoch e of a domain none of whose slots is pinned to where Safe(e) is true.
func twoLead(t *testing.T, d *epoch.Domain) {
	t.Helper()
	e, _ := d.Now(nil)
	is(t, "ahead of two Moves", d, nil, safe(e), no())
	is(t, "the first one", d, nil, move(), moved(e+1))
	is(t, "behind one", d, nil, safe(e), no())
	is(t, "the second one", d, nil, move(), moved(e+2))
	is(t, "behind two", d, nil, safe(e), yes())
	is(t, "behind two", d, nil, safe(e+1), no())
}

func TestP95TwoMovesLead(t *testing.T) {
	for n := 1; n <= api.MaxPins; n++ {
		d := made(t, n)
		for range 20 {
			twoLead(t, d)
			e, _ := d.Now(nil)
			for slot := range n {
				is(t, "a slot", d, nil, pin(slot), told(e))
				is(t, "a slot", d, nil, unpin(slot), unpinned())
			}
		}
		stands(t, "at the end", d, at(n, 41))
	}
}

func TestP95ALongWay(t *testing.T) {
	const far = 100000
	d := made(t, 2)
	for e := uint64(1); e < far; e++ {
		if got := move().of(d, nil); got != moved(e+1) {
			t.Fatalf("Move at %d: %v", e, got)
		}
	}
	is(t, "far", d, nil, pin(1), told(far))
	is(t, "far", d, nil, safe(far-2), yes())
	is(t, "far", d, nil, safe(far-1), no())
	stands(t, "far", d, at(2, far, 0, far))
}

// leftBehind answers a domain whose epoch is now, and one of whose slots is pinned to 1: its Pin, which answered nobody, looked at the epoch when it was 1, and was cut off behind its Store.
func leftBehind(t *testing.T, n, slot int, now uint64) *epoch.Domain {
	t.Helper()
	d := made(t, n)
	order := append([]int{0, 0}, slices.Repeat([]int{1}, int(now-1)*(n+2))...)
	order = append(order, 0)
	order = append(order, slices.Repeat([]int{1}, api.MaxTurns-len(order))...)
	p, e := turn.Play(order, func(g api.Gate) { d.Pin(g, slot) }, func(g api.Gate) {
		for range now - 1 {
			d.Move(g)
		}
		for {
			g.Step(load(0))
		}
	})
	if e != api.OK || !slices.Equal(p.Cut, []int{0, 1}) {
		t.Fatalf("left behind: %v, cut %v", e, p.Cut)
	}
	return d
}

func TestP95AnOldPinHinders(t *testing.T) {
	for _, n := range []int{1, 2, 7, api.MaxPins} {
		for _, e := range []uint64{2, 3, 4, 9} {
			for _, slot := range []int{0, n / 2, n - 1} {
				d := leftBehind(t, n, slot, e)
				is(t, "left behind", d, nil, pin(slot), refused(api.ErrPinned))
				for range 3 {
					tells(t, "left behind", d, move(), no(), looks(slot+1)...)
				}
				// Nobody was answered that it is pinned: so it holds nothing.
				is(t, "left behind", d, nil, safe(1), safeAt(e, 1))
				is(t, "left behind", d, nil, unpin(slot), unpinned())
				is(t, "left behind", d, nil, now(), told(e))
				twoLead(t, d)
			}
		}
	}
}

// TestP92WhatIsCutOff: what was done of it stands, and no more.
func TestP92WhatIsCutOff(t *testing.T) {
	for _, x := range []struct {
		ask    ask
		ops    int // how many it has
		start  start
		stored int // behind so many of them it is the end
		end    start
	}{
		{pin(1), 4, at(3, 2, 1), 3, at(3, 2, 1, 2)},
		{unpin(0), 2, at(3, 2, 1), 2, at(3, 2)},
		{move(), 5, at(3, 2, 2), 5, at(3, 3, 2)},
		{now(), 1, at(3, 2, 1), 2, at(3, 2, 1)},
		{safe(0), 1, at(3, 2, 1), 2, at(3, 2, 1)},
	} {
		for ops := range x.ops + 1 {
			d := x.start.domain(t)
			if cut := plays.CutOff(ops, func(g api.Gate) { x.ask.of(d, g) }); cut != (ops < x.ops) {
				t.Errorf("%v behind %d operations is cut off: %v", x.ask, ops, cut)
			}
			want := x.start
			if ops >= x.stored {
				want = x.end
			}
			stands(t, "cut off", d, want)
		}
	}
}
