package epoch_test

import (
	"slices"
	"testing"

	"patchbay/api"
	"patchbay/epoch"
	"patchbay/plays"
)

const most = 1<<64 - 1

// answer is what a call answers: an epoch; of a Move whether it has gone on, of a Safe whether it is.
type answer struct {
	epoch uint64
	ok    bool
	e     api.Errno
}

// told, moved, yes, no, unpinned and refused are such answers.
func told(e uint64) answer       { return answer{e, false, api.OK} }
func moved(e uint64) answer      { return answer{e, true, api.OK} }
func yes() answer                { return answer{0, true, api.OK} }
func no() answer                 { return answer{0, false, api.OK} }
func unpinned() answer           { return answer{0, false, api.OK} }
func refused(e api.Errno) answer { return answer{0, false, e} }

// safeAt is what a Safe of an epoch answers when the epoch is now.
func safeAt(now, e uint64) answer {
	return answer{0, now > e && now-e > 1, api.OK}
}

// The calls.
const (
	doNow = iota
	doPin
	doUnpin
	doMove
	doSafe
)

// ask is a call: of a Pin and an Unpin the slot, of a Safe the epoch.
type ask struct {
	call  int
	slot  int
	epoch uint64
}

func now() ask           { return ask{doNow, 0, 0} }
func pin(slot int) ask   { return ask{doPin, slot, 0} }
func unpin(slot int) ask { return ask{doUnpin, slot, 0} }
func move() ask          { return ask{doMove, 0, 0} }
func safe(e uint64) ask  { return ask{doSafe, 0, e} }

// one, in, stay and moves are the calls of one thread, one after the other: these; a Pin, and an Unpin at once, or behind one more operation; so many Moves.
func one(asks ...ask) []ask { return asks }
func in(slot int) []ask     { return []ask{pin(slot), unpin(slot)} }
func stay(slot int) []ask   { return []ask{pin(slot), now(), unpin(slot)} }
func moves(n int) []ask     { return slices.Repeat([]ask{move()}, n) }

// object is a domain, or the twin of one.
type object interface {
	Now(g api.Gate) (uint64, api.Errno)
	Pin(g api.Gate, slot int) (uint64, api.Errno)
	Unpin(g api.Gate, slot int) api.Errno
	Move(g api.Gate) (uint64, bool, api.Errno)
	Safe(g api.Gate, epoch uint64) (bool, api.Errno)
}

// of asks an object.
func (a ask) of(o object, g api.Gate) answer {
	switch a.call {
	case doNow:
		v, e := o.Now(g)
		return answer{v, false, e}
	case doPin:
		v, e := o.Pin(g, a.slot)
		return answer{v, false, e}
	case doUnpin:
		return answer{0, false, o.Unpin(g, a.slot)}
	case doMove:
		v, ok, e := o.Move(g)
		return answer{v, ok, e}
	}
	ok, e := o.Safe(g, a.epoch)
	return answer{0, ok, e}
}

// is ends in an error, if an object answers otherwise.
func is(t *testing.T, name string, o object, g api.Gate, a ask, want answer) {
	t.Helper()
	if got := a.of(o, g); got != want {
		t.Errorf("%s: %v: %v, not %v", name, a, got, want)
	}
}

// tells ends in an error, if a domain answers otherwise, or tells its gate of other operations.
func tells(t *testing.T, name string, d *epoch.Domain, a ask, want answer, marks ...api.Mark) {
	t.Helper()
	plays.Tells(t, name, asIs(d), a, want, marks...)
}

// load, store and cas are the marks of operations of that word.
var load, store, cas = plays.Load, plays.Store, plays.CAS

// pinSteps and unpinSteps are the operations of a Pin that meets nobody, and of an Unpin.
func pinSteps(slot int) []api.Mark {
	return []api.Mark{load(1 + slot), load(0), store(1 + slot), load(0)}
}

func unpinSteps(slot int) []api.Mark {
	return []api.Mark{load(1 + slot), store(1 + slot)}
}

// looks are the operations of a Move up to that it has looked at so many slots; moveSteps are those of one that finds none of n slots pinned to another epoch.
func looks(slots int) []api.Mark {
	marks := []api.Mark{load(0)}
	for slot := range slots {
		marks = append(marks, load(1+slot))
	}
	return marks
}

func moveSteps(n int) []api.Mark {
	return append(looks(n), cas(0))
}

// made answers a domain of so many slots, and ends the test where there is none.
func made(t *testing.T, slots int) *epoch.Domain {
	t.Helper()
	d, e := epoch.New(slots)
	if d == nil || e != api.OK {
		t.Fatalf("New(%d): %v, %v", slots, d, e)
	}
	return d
}

// start is how a domain stands: how many slots it has, the epoch; to which one each of the first slots is pinned (0: it is not).
type start struct {
	n     int
	epoch uint64
	pins  []uint64
}

func at(n int, epoch uint64, pins ...uint64) start { return start{n, epoch, pins} }

// domain answers a domain that stands so, and ends the test where there is none.
func (x start) domain(t *testing.T) *epoch.Domain {
	t.Helper()
	d := made(t, x.n)
	for e := uint64(1); ; e++ {
		for slot, p := range x.pins {
			if p == e {
				is(t, "the start", d, nil, pin(slot), told(e))
			}
		}
		if e == x.epoch {
			return d
		}
		if got := move().of(d, nil); got != moved(e+1) {
			t.Fatalf("the start %v: %v at %d", x, got, e)
		}
	}
}

// What a slot is, as far as can be told from outside: not pinned, pinned to the epoch, pinned to another one.
const (
	isFree = iota
	isHere
	isElsewhere
)

// look answers how a domain stands that nobody uses: the epoch, and of each slot what it is. Behind it no slot is pinned, and the epoch is another one.
func look(d *epoch.Domain) []uint64 {
	e, _ := d.Now(nil)
	words := []uint64{e}
	for slot := range d.Slots() {
		if _, e := d.Pin(nil, slot); e != api.OK {
			words = append(words, isHere)
			continue
		}
		d.Unpin(nil, slot)
		words = append(words, isFree)
	}
	for range d.Slots() {
		var ok bool
		marks := plays.Told(func(g api.Gate) { _, ok, _ = d.Move(g) })
		if ok || len(marks) == 0 || marks[len(marks)-1].Word == 0 {
			break
		}
		// It has looked at no slot behind the first one that is pinned elsewhere.
		slot := marks[len(marks)-1].Word - 1
		words[1+slot] = isElsewhere
		d.Unpin(nil, slot)
	}
	for slot := range d.Slots() {
		d.Unpin(nil, slot)
	}
	return words
}

// stands ends in an error, unless a domain stands so. Behind it no slot is pinned, and the epoch is another one.
func stands(t *testing.T, name string, d *epoch.Domain, x start) {
	t.Helper()
	want := append([]uint64{x.epoch}, make([]uint64, x.n)...)
	for slot, p := range x.pins {
		want[1+slot] = kind(x.epoch, p)
	}
	if got := look(d); !slices.Equal(got, want) || d.Slots() != x.n {
		t.Errorf("%s: %v, not %v", name, got, want)
	}
}

// kind answers what a slot is when the epoch is now.
func kind(now, pinned uint64) uint64 {
	switch pinned {
	case 0:
		return isFree
	case now:
		return isHere
	}
	return isElsewhere
}
