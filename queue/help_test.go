package queue

import (
	"slices"
	"testing"

	"patchbay/api"
	"patchbay/plays"
)

const top = 1<<64 - 1

// answer is what a call answers: of a Put whether the value was put in, of a Take and a Drain which values were taken, of a Take also whether there was one.
type answer struct {
	took []uint64
	ok   bool
	e    api.Errno
}

// yes, no, took, list, none are such answers: of a Put, of a Put or a Take, of a Take, of a Drain, of all calls of a queue that is none.
func yes() answer                  { return answer{nil, true, api.OK} }
func no() answer                   { return answer{nil, false, api.OK} }
func took(v uint64) answer         { return answer{[]uint64{v}, true, api.OK} }
func list(values ...uint64) answer { return answer{values, false, api.OK} }
func none() answer                 { return answer{nil, false, api.ErrNil} }

// same tells whether two answers are alike.
func (a answer) same(b answer) bool {
	return slices.Equal(a.took, b.took) && a.ok == b.ok && a.e == b.e
}

// kind is a kind of calls.
type kind int

const (
	doPut kind = iota
	doTake
	doDrain
)

// ask is a call: of a Put what is put in.
type ask struct {
	kind kind
	v    uint64
}

// puts, takes and drains are calls, one after the other.
func puts(values ...uint64) []ask {
	var asks []ask
	for _, v := range values {
		asks = append(asks, ask{doPut, v})
	}
	return asks
}

func takes(n int) []ask  { return slices.Repeat([]ask{{doTake, 0}}, n) }
func drains(n int) []ask { return slices.Repeat([]ask{{doDrain, 0}}, n) }

// from answers n values, from v on.
func from(v uint64, n int) []uint64 {
	var values []uint64
	for i := range uint64(n) {
		values = append(values, v+i)
	}
	return values
}

// object is a queue, or the twin of one.
type object interface {
	Put(g api.Gate, v uint64) (bool, api.Errno)
	Take(g api.Gate) (uint64, bool, api.Errno)
	Drain(g api.Gate) ([]uint64, api.Errno)
}

// of asks an object.
func (a ask) of(o object, g api.Gate) answer {
	switch a.kind {
	case doPut:
		ok, e := o.Put(g, a.v)
		return answer{nil, ok, e}
	case doTake:
		v, ok, e := o.Take(g)
		if !ok && v == 0 {
			return answer{nil, ok, e}
		}
		return answer{[]uint64{v}, ok, e}
	}
	values, e := o.Drain(g)
	return answer{values, false, e}
}

// asking answers what asks that object.
func asking(o object) func(a ask, g api.Gate) answer {
	return func(a ask, g api.Gate) answer { return a.of(o, g) }
}

// is ends in an error, if an object answers otherwise.
func is(t *testing.T, name string, o object, g api.Gate, a ask, want answer) {
	t.Helper()
	if got := a.of(o, g); !got.same(want) {
		t.Errorf("%s: %v: %v, not %v", name, a, got, want)
	}
}

// tells ends in an error, if a queue answers otherwise, or tells its gate of other operations.
func tells(t *testing.T, name string, q *Queue, a ask, want answer, marks ...api.Mark) {
	t.Helper()
	plays.Tells(t, name, asIs(q), a, want, marks...)
}

// load, store and cas are the marks of operations of that word.
var load, store, cas = plays.Load, plays.Store, plays.CAS

// meanwhile is a gate that does something ahead of each step.
type meanwhile func(m api.Mark)

func (f meanwhile) Step(m api.Mark) { f(m) }

// putSteps and takeSteps are the operations of a Put and a Take that say true and meet nobody, noRoom and noValue those of the ones that say false, of that slot.
func putSteps(slot int) []api.Mark {
	return []api.Mark{load(0), load(2 + 2*slot), cas(0), store(3 + 2*slot), store(2 + 2*slot)}
}

func takeSteps(slot int) []api.Mark {
	return []api.Mark{load(1), load(2 + 2*slot), cas(1), load(3 + 2*slot), store(2 + 2*slot)}
}

func noRoom(slot int) []api.Mark  { return []api.Mark{load(0), load(2 + 2*slot)} }
func noValue(slot int) []api.Mark { return []api.Mark{load(1), load(2 + 2*slot)} }

// sizes are all counts of slots that may be.
func sizes() []int {
	return []int{2, 4, 8, 16, 32, 64, 128, 256, 512, 1024}
}

// made answers a queue of so many slots, and ends the test where there is none.
func made(t *testing.T, slots int) *Queue {
	t.Helper()
	q, e := New(slots)
	if q == nil || e != api.OK {
		t.Fatalf("New(%d): %v, %v", slots, q, e)
	}
	return q
}

// standing answers the words of a queue of n slots out of which so many values were taken, and in which these are.
func standing(n int, before uint64, values ...uint64) []uint64 {
	words := make([]uint64, 2+2*n)
	words[0], words[1] = before+uint64(len(values)), before
	for i := range n {
		ticket := before + uint64(i)
		at := 2 + 2*int(ticket%uint64(n))
		words[at] = ticket
		if i < len(values) {
			words[at], words[at+1] = ticket+1, values[i]
		}
	}
	return words
}

// madeOf answers a queue with these words.
func madeOf(t *testing.T, words []uint64) *Queue {
	t.Helper()
	q := made(t, len(words)/2-1)
	plays.SetWords(q.words, words)
	return q
}

// wordsOf answers the words of a queue.
func wordsOf(q *Queue) []uint64 { return plays.WordsOf(q.words) }

// holds ends in an error, unless just these values are in a queue that nobody else uses, and there is room for as many others as are left. Behind it there are none.
func holds(t *testing.T, name string, q *Queue, want ...uint64) {
	t.Helper()
	n := q.Slots()
	for i := len(want); i < n; i++ {
		is(t, name, q, nil, ask{doPut, uint64(i)}, yes())
	}
	is(t, name, q, nil, ask{doPut, 99}, no())
	for _, v := range want {
		is(t, name, q, nil, ask{doTake, 0}, took(v))
	}
	is(t, name, q, nil, ask{doDrain, 0}, list(from(uint64(len(want)), n-len(want))...))
	is(t, name, q, nil, ask{doTake, 0}, no())
}
