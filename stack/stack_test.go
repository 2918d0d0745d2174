package stack

import (
	"math"
	"slices"
	"testing"

	"patchbay/api"
	"patchbay/plays"
	"patchbay/turn"
)

func TestP81NewThatMayNotBe(t *testing.T) {
	wrong := []int{0, -1, -2, -3, -4, -api.MaxSlots, api.MaxSlots - 1, api.MaxSlots + 1, 2 * api.MaxSlots, 4 * api.MaxSlots,
		1 << 16, 1 << 31, 1 << 32, 1<<32 + 2, 1<<32 + 1, 1 << 62, math.MaxInt, math.MinInt, math.MinInt + 1, math.MinInt + 2}
	for n := range 2*api.MaxSlots + 2 {
		if !slices.Contains(sizes(), n) {
			wrong = append(wrong, n)
		}
	}
	for _, n := range wrong {
		if s, e := New(n); s != nil || e != api.ErrArg {
			t.Errorf("New(%d): %v, %v", n, s, e)
		}
	}
}

func TestP81NewAndSlots(t *testing.T) {
	for _, n := range sizes() {
		s := made(t, n)
		wordsAre(t, "New", s, standing(n))
		for i := range n + 1 {
			if got := s.Slots(); got != n {
				t.Errorf("Slots: %d, not %d", got, n)
			}
			is(t, "Push", s, nil, ask{false, uint64(i)}, answer{0, i < n, api.OK})
		}
		wordsAre(t, "a full stack", s, standing(n, from(0, n)...))
		holds(t, "a full stack", s, from(0, n)...)
		if got := s.Slots(); got != n {
			t.Errorf("Slots of an empty one: %d, not %d", got, n)
		}
	}
}

// TestP81Words: as the chapter says it, word by word.
func TestP81Words(t *testing.T) {
	for n, want := range map[int][]uint64{
		1: {0, 1, 0, 0},
		2: {0, 1, 2, 0, 0, 0},
		4: {0, 1, 2, 0, 3, 0, 4, 0, 0, 0},
	} {
		wordsAre(t, "New", made(t, n), want)
	}
	for _, n := range sizes() {
		words := wordsOf(made(t, n))
		for i := range n {
			want := uint64(i) + 2
			if i == n-1 {
				want = 0
			}
			if words[2+2*i] != want || words[3+2*i] != 0 {
				t.Errorf("of %d slots: the node %d has the next %d, the value %d", n, i, words[2+2*i], words[3+2*i])
			}
		}
		if words[0] != 0 || words[1] != 1 || len(words) != 2+2*n {
			t.Errorf("of %d slots: %d words, the tops %x, %x", n, len(words), words[0], words[1])
		}
	}
}

func TestP81NothingLiesOnIt(t *testing.T) {
	for _, n := range sizes() {
		is(t, "Pop", made(t, n), nil, ask{true, 0}, no())
		holds(t, "New", made(t, n))
	}
}

func TestP81StacksAreTheirOwn(t *testing.T) {
	a, b := made(t, 2), made(t, 2)
	a.Push(nil, 5)
	b.Push(nil, 6)
	a.Push(nil, 7)
	holds(t, "a", a, 5, 7)
	holds(t, "b", b, 6)
}

func TestP82Examples(t *testing.T) {
	s := made(t, 2)
	tells(t, "an empty stack", s, ask{false, 5}, yes(), load(1), load(2), cas(1), store(3), load(0), store(2), cas(0))
	wordsAre(t, "behind one Push", s, []uint64{tags + 1, tags + 2, 0, 5, 0, 0})
	tells(t, "one lies there", s, ask{false, 6}, yes(), load(1), load(4), cas(1), store(5), load(0), store(4), cas(0))
	wordsAre(t, "behind two", s, []uint64{2*tags + 2, 2 * tags, 0, 5, 1, 6})
	tells(t, "a full stack", s, ask{false, 7}, no(), load(1))
	wordsAre(t, "behind one without room", s, []uint64{2*tags + 2, 2 * tags, 0, 5, 1, 6})
	holds(t, "a full stack", s, 5, 6)
}

func TestP83Examples(t *testing.T) {
	s := made(t, 2)
	is(t, "an empty stack", s, nil, ask{false, 5}, yes())
	tells(t, "one lies there", s, ask{true, 0}, popped(5), load(0), load(2), cas(0), load(3), load(1), store(2), cas(1))
	wordsAre(t, "behind a Pop", s, []uint64{2 * tags, 2*tags + 1, 2, 5, 0, 0})
	tells(t, "an empty stack", s, ask{true, 0}, no(), load(0))
	wordsAre(t, "behind one of none", s, []uint64{2 * tags, 2*tags + 1, 2, 5, 0, 0})
	s = made(t, 2)
	for i, v := range []uint64{5, 6, 7} {
		is(t, "Push", s, nil, ask{false, v}, answer{0, i < 2, api.OK})
	}
	for _, want := range []answer{popped(6), popped(5), no()} {
		is(t, "Pop", s, nil, ask{true, 0}, want)
	}
}

// TestP82OperationsOfAllSizes: the node that was freed last comes first.
func TestP82OperationsOfAllSizes(t *testing.T) {
	for _, n := range sizes() {
		s := made(t, n)
		for round := range uint64(3) {
			for i := range n {
				tells(t, "Push", s, ask{false, 1000*round + uint64(i)}, yes(), pushSteps(i)...)
			}
			for range 2 {
				tells(t, "Push onto a full one", s, ask{false, 99}, no(), load(1))
			}
			for i := n - 1; i >= 0; i-- {
				tells(t, "Pop", s, ask{true, 0}, popped(1000*round+uint64(i)), popSteps(i)...)
			}
			for range 2 {
				tells(t, "Pop from an empty one", s, ask{true, 0}, no(), load(0))
			}
			// Each call that said true has made a follower of each top.
			turned := 2 * uint64(n) * (round + 1)
			wordsAre(t, "behind a round", s, tagged(turned, turned, valued(standing(n), from(1000*round, n)...)))
		}
	}
}

func TestP82Values(t *testing.T) {
	edges := []uint64{0, most, 1, most - 1, 1 << 32, 1<<32 - 1, 1<<32 + 1, 1 << 63, 1<<63 - 1, 0, 0, most}
	s := made(t, 16)
	for _, v := range edges {
		is(t, "Push", s, nil, ask{false, v}, yes())
	}
	holds(t, "edges", s, edges...)
}

// TestP82TagsThatGoRound: behind the tag 2^32 - 1 comes 0, and the node stays what it is; each top has a tag of its own.
func TestP82TagsThatGoRound(t *testing.T) {
	for _, n := range []int{2, 4, 1024} {
		for _, tag := range []uint64{0, 1<<8 - 1, 1<<16 - 1, 1<<31 - 1, tags - 4, tags - 3, tags - 2, tags - 1} {
			for _, other := range []uint64{0, tag, tags - 1, tags - 2} {
				s := madeOf(t, tagged(tag, other, standing(n, 5)))
				tells(t, "Push", s, ask{false, 6}, yes(), pushSteps(1)...)
				wordsAre(t, "Push", s, tagged((tag+1)%tags, (other+1)%tags, standing(n, 5, 6)))
				tells(t, "Pop", s, ask{true, 0}, popped(6), popSteps(1)...)
				wordsAre(t, "Pop", s, tagged((tag+2)%tags, (other+2)%tags, valued(standing(n, 5), 5, 6)))
				tells(t, "Pop", s, ask{true, 0}, popped(5), popSteps(0)...)
				tells(t, "Pop", s, ask{true, 0}, no(), load(0))
				wordsAre(t, "an empty one", s, tagged((tag+3)%tags, (other+3)%tags, valued(standing(n), 5, 6)))
				holds(t, "an empty one", s)
			}
		}
	}
}

func TestP82StacksThatAreNone(t *testing.T) {
	whole := made(t, 2)
	whole.Push(nil, 5)
	for name, s := range map[string]*Stack{"nil": nil, "a zero value": {}, "new": new(Stack), "a copy": plays.Copied(whole)} {
		for _, a := range []ask{{false, 0}, {false, 7}, {true, 0}} {
			tells(t, name, s, a, none())
			is(t, name, s, nil, a, none())
		}
		if n := s.Slots(); n != 0 {
			t.Errorf("%s: Slots: %d", name, n)
		}
	}
	wordsAre(t, "the whole one", whole, standing(2, 5))
	holds(t, "the whole one", whole, 5)
}

func TestP82AGateThatIsANilPointer(t *testing.T) {
	// It is no nil interface: it is told, and does nothing.
	s := made(t, 2)
	g := (*turn.Notes)(nil)
	is(t, "Push", s, g, ask{false, 5}, yes())
	is(t, "Push", s, g, ask{false, 6}, yes())
	is(t, "Push", s, g, ask{false, 7}, no())
	is(t, "Pop", s, g, ask{true, 0}, popped(6))
	is(t, "Pop", s, g, ask{true, 0}, popped(5))
	is(t, "Pop", s, g, ask{true, 0}, no())
}

func TestP84AloneItIsAList(t *testing.T) {
	const calls = 12
	for _, n := range []int{1, 2, 4, 8} {
		for row := range 1 << calls {
			s := made(t, n)
			var lie []uint64
			for i := range calls {
				v := uint64(10 + i)
				switch {
				case row>>i&1 == 0:
					room := len(lie) < n
					is(t, "Push", s, nil, ask{false, v}, answer{0, room, api.OK})
					if room {
						lie = append(lie, v)
					}
				case len(lie) == 0:
					is(t, "Pop", s, nil, ask{true, 0}, no())
				default:
					is(t, "Pop", s, nil, ask{true, 0}, popped(lie[len(lie)-1]))
					lie = lie[:len(lie)-1]
				}
			}
			holds(t, "at the end", s, lie...)
		}
	}
}

func TestP84ALongRow(t *testing.T) {
	for _, n := range sizes() {
		s := made(t, n)
		var lie []uint64
		next := uint64(0)
		for round := range 40 {
			// Now more are pushed than popped, now the other way round.
			for range (round*7)%n + 1 {
				room := len(lie) < n
				is(t, "Push", s, nil, ask{false, next}, answer{0, room, api.OK})
				if room {
					lie = append(lie, next)
				}
				next++
			}
			for range (round*5)%n + 1 {
				if len(lie) == 0 {
					is(t, "Pop", s, nil, ask{true, 0}, no())
					continue
				}
				is(t, "Pop", s, nil, ask{true, 0}, popped(lie[len(lie)-1]))
				lie = lie[:len(lie)-1]
			}
		}
		holds(t, "at the end", s, lie...)
	}
}
