package ring

import (
	"slices"
	"testing"

	"patchbay/api"
	"patchbay/plays"
)

const top = 1<<64 - 1

// answer is what a call answers: of a Put whether there was room, of a Take a number and whether there was one, of a Len how many there are.
type answer struct {
	v  uint64
	ok bool
	e  api.Errno
}

// yes, no, none, many are such answers.
func yes(v uint64) answer  { return answer{v, true, api.OK} }
func no() answer           { return answer{0, false, api.OK} }
func none() answer         { return answer{0, false, api.ErrNil} }
func many(n uint64) answer { return answer{n, false, api.OK} }

// kind is a kind of calls.
type kind int

const (
	doPut kind = iota
	doTake
	doLen
)

// ask is a call: of a Put what is put in.
type ask struct {
	kind kind
	v    uint64
}

// puts, takes and lens are calls, one after the other.
func puts(numbers ...uint64) []ask {
	var list []ask
	for _, v := range numbers {
		list = append(list, ask{doPut, v})
	}
	return list
}

func takes(n int) []ask { return slices.Repeat([]ask{{doTake, 0}}, n) }
func lens(n int) []ask  { return slices.Repeat([]ask{{doLen, 0}}, n) }

// inTurns answers one call of each list, and again, till all lists are at their ends.
func inTurns(lists ...[]ask) []ask {
	var all []ask
	for i := range 100 {
		for _, list := range lists {
			if i < len(list) {
				all = append(all, list[i])
			}
		}
	}
	return all
}

// to answers n numbers, from 1 on.
func to(n int) []uint64 {
	var list []uint64
	for v := range uint64(n) {
		list = append(list, v+1)
	}
	return list
}

// object is a ring, or the twin of one.
type object interface {
	Put(g api.Gate, v uint64) (bool, api.Errno)
	Take(g api.Gate) (uint64, bool, api.Errno)
	Len(g api.Gate) (int, api.Errno)
}

// of asks an object.
func (a ask) of(o object, g api.Gate) answer {
	switch a.kind {
	case doPut:
		ok, e := o.Put(g, a.v)
		return answer{0, ok, e}
	case doTake:
		v, ok, e := o.Take(g)
		return answer{v, ok, e}
	}
	n, e := o.Len(g)
	return answer{uint64(n), false, e}
}

// asking answers what asks that object.
func asking(o object) func(a ask, g api.Gate) answer {
	return func(a ask, g api.Gate) answer { return a.of(o, g) }
}

// is ends in an error, if an object answers otherwise.
func is(t *testing.T, name string, o object, g api.Gate, a ask, want answer) {
	t.Helper()
	if got := a.of(o, g); got != want {
		t.Errorf("%s: %v: %v, not %v", name, a, got, want)
	}
}

// tells ends in an error, if a call answers otherwise, or tells its gate of other operations than these, in this order.
func tells(t *testing.T, name string, o object, a ask, want answer, marks ...api.Mark) {
	t.Helper()
	got := plays.Told(func(g api.Gate) { is(t, name, o, g, a, want) })
	if !slices.Equal(got, marks) {
		t.Errorf("%s: %v tells %v, not %v", name, a, got, marks)
	}
}

// load and store are the marks of operations of that word.
var load, store = plays.Load, plays.Store

// putSteps and takeSteps are the operations of a Put and a Take that say true, lookSteps those of the ones that say false, of that slot.
func putSteps(slot int) []api.Mark {
	return []api.Mark{load(1), load(0), store(2 + slot), store(1)}
}

func takeSteps(slot int) []api.Mark {
	return []api.Mark{load(0), load(1), load(2 + slot), store(0)}
}

func lookSteps(k kind) []api.Mark {
	if k == doPut {
		return []api.Mark{load(1), load(0)}
	}
	return []api.Mark{load(0), load(1)}
}

// sizes are all counts of slots that may be.
func sizes() []int {
	return []int{1, 2, 4, 8, 16, 32, 64, 128, 256, 512, 1024}
}

// made answers a ring of so many slots, and ends the test where there is none.
func made(t *testing.T, slots int) *Ring {
	t.Helper()
	r, e := New(slots)
	if r == nil || e != api.OK {
		t.Fatalf("New(%d): %v, %v", slots, r, e)
	}
	return r
}

// madeOf answers a ring with these words.
func madeOf(t *testing.T, words []uint64) *Ring {
	t.Helper()
	r := made(t, len(words)-2)
	plays.SetWords(r.words, words)
	return r
}

// wordsOf answers the words of a ring.
func wordsOf(r *Ring) []uint64 { return plays.WordsOf(r.words) }

// holds ends in an error, unless just these numbers are in a ring that nobody else uses. Behind it there are none.
func holds(t *testing.T, name string, r *Ring, want ...uint64) {
	t.Helper()
	is(t, name, r, nil, ask{doLen, 0}, many(uint64(len(want))))
	for _, v := range want {
		is(t, name, r, nil, ask{doTake, 0}, yes(v))
	}
	is(t, name, r, nil, ask{doTake, 0}, no())
	is(t, name, r, nil, ask{doLen, 0}, many(0))
}
