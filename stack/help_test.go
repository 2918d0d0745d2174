package stack

import (
	"slices"
	"testing"

	"patchbay/api"
	"patchbay/plays"
)

const (
	most = 1<<64 - 1
	tags = 1 << 32 // how many there are
)

// answer is what a call answers: of a Push whether there was a free node, of a Pop a number and whether there was one.
type answer struct {
	v  uint64
	ok bool
	e  api.Errno
}

// yes, popped, no and none are such answers: of a Push, of a Pop, of both, of all calls of a stack that is none.
func yes() answer            { return answer{0, true, api.OK} }
func popped(v uint64) answer { return answer{v, true, api.OK} }
func no() answer             { return answer{0, false, api.OK} }
func none() answer           { return answer{0, false, api.ErrNil} }

// ask is a call: of a Push what is pushed; a Pop, if pop.
type ask struct {
	pop bool
	v   uint64
}

// pushes and pops are calls, one after the other.
func pushes(numbers ...uint64) []ask {
	var asks []ask
	for _, v := range numbers {
		asks = append(asks, ask{false, v})
	}
	return asks
}

func pops(n int) []ask { return slices.Repeat([]ask{{true, 0}}, n) }

// from answers n numbers, from v on.
func from(v uint64, n int) []uint64 {
	var numbers []uint64
	for i := range n {
		numbers = append(numbers, v+uint64(i))
	}
	return numbers
}

// object is a stack, or the twin of one.
type object interface {
	Push(g api.Gate, v uint64) (bool, api.Errno)
	Pop(g api.Gate) (uint64, bool, api.Errno)
}

// of asks an object.
func (a ask) of(o object, g api.Gate) answer {
	if a.pop {
		v, ok, e := o.Pop(g)
		return answer{v, ok, e}
	}
	ok, e := o.Push(g, a.v)
	return answer{0, ok, e}
}

// is ends in an error, if an object answers otherwise.
func is(t *testing.T, name string, o object, g api.Gate, a ask, want answer) {
	t.Helper()
	if got := a.of(o, g); got != want {
		t.Errorf("%s: %v: %v, not %v", name, a, got, want)
	}
}

// tells ends in an error, if a stack answers otherwise, or tells its gate of other operations.
func tells(t *testing.T, name string, s *Stack, a ask, want answer, marks ...api.Mark) {
	t.Helper()
	plays.Tells(t, name, asIs(s), a, want, marks...)
}

// load, store and cas are the marks of operations of that word.
var load, store, cas = plays.Load, plays.Store, plays.CAS

// pushSteps and popSteps are the operations of a Push and a Pop that meet nobody, with that node.
func pushSteps(i int) []api.Mark {
	return []api.Mark{load(1), load(2 + 2*i), cas(1), store(3 + 2*i), load(0), store(2 + 2*i), cas(0)}
}

func popSteps(i int) []api.Mark {
	return []api.Mark{load(0), load(2 + 2*i), cas(0), load(3 + 2*i), load(1), store(2 + 2*i), cas(1)}
}

// sizes are all counts of slots that may be.
func sizes() []int {
	return []int{1, 2, 4, 8, 16, 32, 64, 128, 256, 512, 1024}
}

// made answers a stack of so many slots, and ends the test where there is none.
func made(t *testing.T, slots int) *Stack {
	t.Helper()
	s, e := New(slots)
	if s == nil || e != api.OK {
		t.Fatalf("New(%d): %v, %v", slots, s, e)
	}
	return s
}

// standing answers the words of a stack of n slots onto which these numbers were pushed, the first node first.
func standing(n int, numbers ...uint64) []uint64 {
	words := make([]uint64, 2+2*n)
	many := uint64(len(numbers))
	words[0], words[1] = many*tags+many, many*tags+many+1
	if len(numbers) == n {
		words[1] = many * tags
	}
	for i := range n {
		if i < len(numbers) {
			// The one that was pushed ahead of it; of the first one none.
			words[2+2*i], words[3+2*i] = uint64(i), numbers[i]
		} else if i < n-1 {
			words[2+2*i] = uint64(i) + 2
		}
	}
	return words
}

// tagged answers such words with other tags.
func tagged(top, free uint64, words []uint64) []uint64 {
	words = slices.Clone(words)
	words[0] = words[0]%tags + top*tags
	words[1] = words[1]%tags + free*tags
	return words
}

// valued answers such words with other values, those of the first nodes: what is popped leaves its value in its node.
func valued(words []uint64, values ...uint64) []uint64 {
	words = slices.Clone(words)
	for i, v := range values {
		words[3+2*i] = v
	}
	return words
}

// madeOf answers a stack with these words.
func madeOf(t *testing.T, words []uint64) *Stack {
	t.Helper()
	s := made(t, len(words)/2-1)
	plays.SetWords(s.words, words)
	return s
}

// wordsOf answers the words of a stack.
func wordsOf(s *Stack) []uint64 { return plays.WordsOf(s.words) }

// wordsAre ends in an error, unless a stack has these words.
func wordsAre(t *testing.T, name string, s *Stack, want []uint64) {
	t.Helper()
	if got := wordsOf(s); !slices.Equal(got, want) {
		t.Errorf("%s: the words %x, not %x", name, got, want)
	}
}

// holds ends in an error, unless just these numbers lie on a stack that nobody else uses, the last one on top, and there are as many free nodes as are left. Behind it nothing lies there.
func holds(t *testing.T, name string, s *Stack, want ...uint64) {
	t.Helper()
	all := append(slices.Clone(want), from(101, s.Slots()-len(want))...)
	for _, v := range all[len(want):] {
		is(t, name, s, nil, ask{false, v}, yes())
	}
	is(t, name, s, nil, ask{false, 99}, no())
	for _, v := range slices.Backward(all) {
		is(t, name, s, nil, ask{true, 0}, popped(v))
	}
	is(t, name, s, nil, ask{true, 0}, no())
}
