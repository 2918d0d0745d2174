package ring

import (
	"math"
	"slices"
	"testing"

	"patchbay/api"
	"patchbay/plays"
	"patchbay/turn"
)

func TestP61NewThatMayNotBe(t *testing.T) {
	wrong := []int{0, -1, -2, -3, -4, -api.MaxSlots, api.MaxSlots - 1, api.MaxSlots + 1, api.MaxSlots + 2, 2 * api.MaxSlots,
		1 << 16, 1 << 31, 1<<32 + 1, 1<<32 + 4, 1 << 62, math.MaxInt, math.MinInt, math.MinInt + 1}
	for n := range 2*api.MaxSlots + 2 {
		if !slices.Contains(sizes(), n) {
			wrong = append(wrong, n)
		}
	}
	for _, n := range wrong {
		if r, e := New(n); r != nil || e != api.ErrArg {
			t.Errorf("New(%d): %v, %v", n, r, e)
		}
	}
}

func TestP61NewAndSlots(t *testing.T) {
	for _, n := range sizes() {
		r := made(t, n)
		if !slices.Equal(wordsOf(r), make([]uint64, 2+n)) {
			t.Errorf("New(%d): the words %v", n, wordsOf(r))
		}
		for i := range n + 1 {
			if got := r.Slots(); got != n {
				t.Errorf("Slots: %d, not %d", got, n)
			}
			is(t, "Put", r, nil, ask{doPut, uint64(i)}, answer{0, i < n, api.OK})
		}
	}
}

func TestP61NothingIsInIt(t *testing.T) {
	for _, n := range sizes() {
		holds(t, "New", made(t, n))
	}
}

func TestP61RingsAreTheirOwn(t *testing.T) {
	a, b := made(t, 2), made(t, 2)
	a.Put(nil, 5)
	b.Put(nil, 6)
	a.Put(nil, 7)
	holds(t, "a", a, 5, 7)
	holds(t, "b", b, 6)
}

func TestP62Examples(t *testing.T) {
	r := made(t, 2)
	tells(t, "an empty ring", r, ask{doTake, 0}, no(), load(0), load(1))
	tells(t, "an empty ring", r, ask{doPut, 5}, yes(0), load(1), load(0), store(2), store(1))
	is(t, "one is in", r, nil, ask{doPut, 6}, yes(0))
	tells(t, "a full ring", r, ask{doPut, 7}, no(), load(1), load(0))
	tells(t, "a full ring", r, ask{doLen, 0}, many(2), load(0), load(1))
	tells(t, "a full ring", r, ask{doTake, 0}, yes(5), load(0), load(1), load(2), store(0))
	is(t, "one is in", r, nil, ask{doPut, 7}, yes(0))
	is(t, "two are in", r, nil, ask{doTake, 0}, yes(6))
	is(t, "one is in", r, nil, ask{doTake, 0}, yes(7))
	is(t, "none is in", r, nil, ask{doTake, 0}, no())
}

func TestP62RingsOfAllSizes(t *testing.T) {
	for _, n := range sizes() {
		r := made(t, n)
		v := uint64(0)
		for round := range 3 {
			// Each round begins at another slot.
			for i := range n {
				tells(t, "Len", r, ask{doLen, 0}, many(uint64(i)), lookSteps(doLen)...)
				tells(t, "Put", r, ask{doPut, v + uint64(i)}, yes(0), putSteps((round+i)%n)...)
			}
			for range 2 {
				tells(t, "Put into a full one", r, ask{doPut, 99}, no(), lookSteps(doPut)...)
				tells(t, "Len of a full one", r, ask{doLen, 0}, many(uint64(n)), lookSteps(doLen)...)
			}
			for i := range n {
				tells(t, "Take", r, ask{doTake, 0}, yes(v+uint64(i)), takeSteps((round+i)%n)...)
			}
			for range 2 {
				tells(t, "Take from an empty one", r, ask{doTake, 0}, no(), lookSteps(doTake)...)
				tells(t, "Len of an empty one", r, ask{doLen, 0}, many(0), lookSteps(doLen)...)
			}
			v += uint64(n)
			is(t, "one more", r, nil, ask{doPut, v}, yes(0))
			is(t, "one more", r, nil, ask{doTake, 0}, yes(v))
		}
	}
}

func TestP62Numbers(t *testing.T) {
	edges := []uint64{0, top, 1, top - 1, 1 << 32, 1<<32 - 1, 1 << 63, 1<<63 - 1, 0, 0, top}
	r := made(t, 16)
	for _, v := range edges {
		is(t, "Put", r, nil, ask{doPut, v}, yes(0))
	}
	holds(t, "edges", r, edges...)
}

// TestP62CountsThatGoRound: the counts go on behind 2^64 - 1 as ahead of it.
func TestP62CountsThatGoRound(t *testing.T) {
	for _, n := range []int{1, 2, 4, 1024} {
		for _, at := range []uint64{top - 2, 1<<63 - 2, 1<<32 - 2, 1<<31 - 2} {
			r := madeOf(t, append([]uint64{at, at}, make([]uint64, n)...))
			for i := range uint64(6) {
				slot := int((at + i) % uint64(n))
				is(t, "Len", r, nil, ask{doLen, 0}, many(0))
				tells(t, "Put", r, ask{doPut, 5 + i}, yes(0), putSteps(slot)...)
				is(t, "Len", r, nil, ask{doLen, 0}, many(1))
				if n == 1 {
					tells(t, "a full ring", r, ask{doPut, 9}, no(), lookSteps(doPut)...)
				}
				tells(t, "Take", r, ask{doTake, 0}, yes(5+i), takeSteps(slot)...)
				tells(t, "an empty ring", r, ask{doTake, 0}, no(), lookSteps(doTake)...)
			}
			for i := range n {
				is(t, "Put", r, nil, ask{doPut, uint64(i)}, yes(0))
			}
			is(t, "a full ring", r, nil, ask{doPut, 9}, no())
			is(t, "a full ring", r, nil, ask{doLen, 0}, many(uint64(n)))
		}
	}
}

// TestP62OtherCounts: where several put, or take, at a time the counts may be others than one and one make; the steps hold all the same.
func TestP62OtherCounts(t *testing.T) {
	for _, x := range []struct {
		name                string
		words               []uint64
		len, take, put      answer
		takeMarks, putMarks []api.Mark
	}{
		{"more were taken than put", []uint64{2, 1, 5, 6}, many(2), yes(5), no(), takeSteps(0), lookSteps(doPut)},
		{"far more were taken", []uint64{9, 1, 5, 6}, many(2), yes(6), no(), takeSteps(1), lookSteps(doPut)},
		{"as many were put as there is room", []uint64{1, 3, 5, 6}, many(2), yes(6), yes(0), takeSteps(1), putSteps(1)},
		{"one more was put than there is room", []uint64{1, 4, 5, 6}, many(2), yes(6), no(), takeSteps(1), lookSteps(doPut)},
		{"far more were put", []uint64{1, 9, 5, 6}, many(2), yes(6), no(), takeSteps(1), lookSteps(doPut)},
		{"half of all", []uint64{0, 1 << 63, 5, 6}, many(2), yes(5), no(), takeSteps(0), lookSteps(doPut)},
		{"all but one", []uint64{1, 0, 5, 6, 7, 8}, many(4), yes(6), no(), takeSteps(1), lookSteps(doPut)},
		{"one, round the end", []uint64{top, 0, 5, 6}, many(1), yes(6), yes(0), takeSteps(1), putSteps(0)},
	} {
		tells(t, x.name, madeOf(t, x.words), ask{doLen, 0}, x.len, lookSteps(doLen)...)
		r := madeOf(t, x.words)
		tells(t, x.name, r, ask{doTake, 0}, x.take, x.takeMarks...)
		// A Put that comes behind that Take: it finds one more taken.
		if want := x.words[0] + 1; r.words[0].Load() != want {
			t.Errorf("%s: %d were taken, not %d", x.name, r.words[0].Load(), want)
		}
		tells(t, x.name, r, ask{doPut, 9}, x.put, x.putMarks...)
	}
}

func TestP62RingsThatAreNone(t *testing.T) {
	whole := made(t, 2)
	whole.Put(nil, 5)
	for name, r := range map[string]*Ring{"nil": nil, "a zero value": {}, "new": new(Ring), "a copy": plays.Copied(whole)} {
		for _, a := range []ask{{doPut, 0}, {doPut, 7}, {doTake, 0}, {doLen, 0}} {
			tells(t, name, r, a, none())
			is(t, name, r, nil, a, none())
		}
		if n := r.Slots(); n != 0 {
			t.Errorf("%s: Slots: %d", name, n)
		}
	}
	holds(t, "the whole one", whole, 5)
}

func TestP62AGateThatIsANilPointer(t *testing.T) {
	// It is no nil interface: it is told, and does nothing.
	r := made(t, 2)
	g := (*turn.Notes)(nil)
	is(t, "Put", r, g, ask{doPut, 5}, yes(0))
	is(t, "Len", r, g, ask{doLen, 0}, many(1))
	is(t, "Take", r, g, ask{doTake, 0}, yes(5))
}
