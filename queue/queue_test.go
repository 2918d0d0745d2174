package queue

import (
	"math"
	"slices"
	"testing"

	"patchbay/api"
	"patchbay/plays"
	"patchbay/turn"
)

func TestP71NewThatMayNotBe(t *testing.T) {
	wrong := []int{0, 1, -1, -2, -3, -4, -api.MaxSlots, api.MaxSlots - 1, api.MaxSlots + 1, 2 * api.MaxSlots, 4 * api.MaxSlots,
		1 << 16, 1 << 31, 1 << 32, 1<<32 + 2, 1<<32 + 1, 1 << 62, math.MaxInt, math.MinInt, math.MinInt + 1, math.MinInt + 2}
	for n := range 2*api.MaxSlots + 2 {
		if !slices.Contains(sizes(), n) {
			wrong = append(wrong, n)
		}
	}
	for _, n := range wrong {
		if q, e := New(n); q != nil || e != api.ErrArg {
			t.Errorf("New(%d): %v, %v", n, q, e)
		}
	}
}

func TestP71NewAndSlots(t *testing.T) {
	for _, n := range sizes() {
		q := made(t, n)
		if !slices.Equal(wordsOf(q), standing(n, 0)) {
			t.Errorf("New(%d): the words %v", n, wordsOf(q))
		}
		for i := range n + 1 {
			if got := q.Slots(); got != n {
				t.Errorf("Slots: %d, not %d", got, n)
			}
			is(t, "Put", q, nil, ask{doPut, uint64(i)}, answer{nil, i < n, api.OK})
		}
		holds(t, "a full queue", q, from(0, n)...)
	}
}

func TestP71NothingIsInIt(t *testing.T) {
	for _, n := range sizes() {
		is(t, "Take", made(t, n), nil, ask{doTake, 0}, no())
		is(t, "Drain", made(t, n), nil, ask{doDrain, 0}, list())
		holds(t, "New", made(t, n))
	}
}

func TestP71QueuesAreTheirOwn(t *testing.T) {
	a, b := made(t, 2), made(t, 2)
	a.Put(nil, 5)
	b.Put(nil, 6)
	a.Put(nil, 7)
	holds(t, "a", a, 5, 7)
	holds(t, "b", b, 6)
}

func TestP72Examples(t *testing.T) {
	q := made(t, 2)
	tells(t, "an empty queue", q, ask{doTake, 0}, no(), load(1), load(2))
	tells(t, "an empty queue", q, ask{doPut, 5}, yes(), load(0), load(2), cas(0), store(3), store(2))
	tells(t, "one is in", q, ask{doPut, 6}, yes(), load(0), load(4), cas(0), store(5), store(4))
	tells(t, "a full queue", q, ask{doPut, 7}, no(), load(0), load(2))
	tells(t, "a full queue", q, ask{doTake, 0}, took(5), load(1), load(2), cas(1), load(3), store(2))
	is(t, "one is in", q, nil, ask{doPut, 7}, yes())
	is(t, "two are in", q, nil, ask{doDrain, 0}, list(6, 7))
	is(t, "none is in", q, nil, ask{doTake, 0}, no())
}

func TestP72QueuesOfAllSizes(t *testing.T) {
	for _, n := range sizes() {
		q := made(t, n)
		v := uint64(0)
		for round := range 3 {
			// Each round begins at another slot.
			for i := range n {
				tells(t, "Put", q, ask{doPut, v + uint64(i)}, yes(), putSteps((round+i)%n)...)
			}
			for range 2 {
				tells(t, "Put into a full one", q, ask{doPut, 99}, no(), noRoom(round%n)...)
			}
			for i := range n {
				tells(t, "Take", q, ask{doTake, 0}, took(v+uint64(i)), takeSteps((round+i)%n)...)
			}
			for range 2 {
				tells(t, "Take from an empty one", q, ask{doTake, 0}, no(), noValue(round%n)...)
			}
			v += uint64(n)
			is(t, "one more", q, nil, ask{doPut, v}, yes())
			is(t, "one more", q, nil, ask{doTake, 0}, took(v))
		}
		if want := standing(n, 3*uint64(n)+3)[:2]; !slices.Equal(wordsOf(q)[:2], want) {
			t.Errorf("of %d slots: the tickets %v, not %v", n, wordsOf(q)[:2], want)
		}
	}
}

func TestP72Values(t *testing.T) {
	edges := []uint64{0, top, 1, top - 1, 1 << 32, 1<<32 - 1, 1 << 63, 1<<63 - 1, 0, 0, top}
	q := made(t, 16)
	for _, v := range edges {
		is(t, "Put", q, nil, ask{doPut, v}, yes())
	}
	holds(t, "edges", q, edges...)
}

// TestP72TicketsThatGoRound: they go on behind 2^64 - 1 as ahead of it.
func TestP72TicketsThatGoRound(t *testing.T) {
	for _, n := range []int{2, 4, 1024} {
		for _, at := range []uint64{top - 2, 1<<63 - 2, 1<<32 - 2, 1<<31 - 2} {
			slot := func(ticket uint64) int { return int(ticket % uint64(n)) }
			q := madeOf(t, standing(n, at, 5))
			for i := range uint64(6) {
				tells(t, "Put", q, ask{doPut, 6 + i}, yes(), putSteps(slot(at+i+1))...)
				if n == 2 {
					tells(t, "a full queue", q, ask{doPut, 9}, no(), noRoom(slot(at+i+2))...)
				}
				tells(t, "Take", q, ask{doTake, 0}, took(5+i), takeSteps(slot(at+i))...)
			}
			tells(t, "Drain", q, ask{doDrain, 0}, list(11), append(takeSteps(slot(at+6)), noValue(slot(at+7))...)...)
			for i := range n {
				is(t, "Put", q, nil, ask{doPut, uint64(i)}, yes())
			}
			holds(t, "a full queue", q, from(0, n)...)
		}
	}
}

// TestP72BehindAndAhead: a sequence is behind a ticket, or ahead of it, by half of all numbers at most.
func TestP72BehindAndAhead(t *testing.T) {
	for _, at := range []uint64{0, 2, 1<<63 - 2, 1 << 63, top - 1} {
		for _, x := range []struct {
			kind  kind
			word  int
			turn  uint64
			marks []api.Mark
		}{{doPut, 0, at, noRoom(0)}, {doTake, 1, at + 1, noValue(0)}} {
			words := standing(2, at)
			for _, less := range []uint64{1, 2, 3, 1 << 62, 1<<63 - 1, 1 << 63} {
				words[2] = x.turn - less
				tells(t, "behind", madeOf(t, words), ask{x.kind, 9}, no(), x.marks...)
			}
			for _, more := range []uint64{1, 2, 3, 1 << 62, 1<<63 - 2, 1<<63 - 1} {
				words[2] = x.turn + more
				q := madeOf(t, words)
				// Here nobody draws the ticket: it goes round as long as it has turns.
				n := turn.NewNotes()
				if !plays.CutOff(20, func(g api.Gate) {
					ask{x.kind, 9}.of(q, meanwhile(func(m api.Mark) { n.Step(m); g.Step(m) }))
				}) {
					t.Errorf("%d ahead of %d: it ends", more, x.turn)
				}
				if want := append(slices.Repeat(x.marks, 10), x.marks[0]); !slices.Equal(n.Marks(), want) || !slices.Equal(wordsOf(q), words) {
					t.Errorf("%d ahead of %d: %v, %v", more, x.turn, n.Marks(), wordsOf(q))
				}
			}
		}
	}
}

func TestP72QueuesThatAreNone(t *testing.T) {
	whole := made(t, 2)
	whole.Put(nil, 5)
	for name, q := range map[string]*Queue{"nil": nil, "a zero value": {}, "new": new(Queue), "a copy": plays.Copied(whole)} {
		for _, a := range []ask{{doPut, 0}, {doPut, 7}, {doTake, 0}, {doDrain, 0}} {
			tells(t, name, q, a, none())
			is(t, name, q, nil, a, none())
		}
		if values, _ := q.Drain(nil); values != nil {
			t.Errorf("%s: Drain: %v", name, values)
		}
		if n := q.Slots(); n != 0 {
			t.Errorf("%s: Slots: %d", name, n)
		}
	}
	holds(t, "the whole one", whole, 5)
}

func TestP72AGateThatIsANilPointer(t *testing.T) {
	// It is no nil interface: it is told, and does nothing.
	q := made(t, 2)
	g := (*turn.Notes)(nil)
	is(t, "Put", q, g, ask{doPut, 5}, yes())
	is(t, "Put", q, g, ask{doPut, 6}, yes())
	is(t, "Take", q, g, ask{doTake, 0}, took(5))
	is(t, "Drain", q, g, ask{doDrain, 0}, list(6))
}

func TestP73Drain(t *testing.T) {
	for _, n := range sizes() {
		for _, before := range []uint64{0, 1, uint64(n) + 1, top} {
			for _, many := range []int{0, 1, n / 2, n - 1, n} {
				values := from(7, many)
				q := madeOf(t, standing(n, before, values...))
				var marks []api.Mark
				for i := range many {
					marks = append(marks, takeSteps(int((before+uint64(i))%uint64(n)))...)
				}
				// One more Take tells that there is none, unless as many were taken as there are slots.
				if many < n {
					marks = append(marks, noValue(int((before+uint64(many))%uint64(n)))...)
				}
				tells(t, "Drain", q, ask{doDrain, 0}, list(values...), marks...)
				holds(t, "behind a Drain", q)
			}
		}
	}
}

func TestP73DrainIsNewMemory(t *testing.T) {
	q := madeOf(t, standing(4, 0, 5, 6, 7))
	a, _ := q.Drain(nil)
	q.Put(nil, 8)
	b, _ := q.Drain(nil)
	a = append(a[:1], 1, 2, 3)
	q.Put(nil, 9)
	b[0] = 0
	if !slices.Equal(a, []uint64{5, 1, 2, 3}) || !slices.Equal(b, []uint64{0}) {
		t.Errorf("%v, %v", a, b)
	}
	holds(t, "behind Drains", q, 9)
}

// TestP73DrainTakesNoMoreThanThereAreSlots: whoever puts in behind each Take would else keep it for ever.
func TestP73DrainTakesNoMoreThanThereAreSlots(t *testing.T) {
	for _, n := range sizes() {
		q := madeOf(t, standing(n, 0, from(0, n)...))
		next := uint64(n)
		got, e := q.Drain(meanwhile(func(m api.Mark) {
			if m != load(1) {
				return
			}
			// A new value ahead of each Take, wherever there is room.
			if ok, _ := q.Put(nil, next); ok {
				next++
			}
		}))
		if !slices.Equal(got, from(0, n)) || e != api.OK {
			t.Errorf("of %d slots: %v, %v", n, got, e)
		}
		// Ahead of the first Take there is no room; behind the last one there is no other.
		if want := uint64(2*n - 1); next != want {
			t.Errorf("of %d slots: the values up to %d, not %d", n, next, want)
		}
		is(t, "what is left", q, nil, ask{doDrain, 0}, list(from(uint64(n), n-1)...))
	}
}

func TestP74AloneItIsAPlainRow(t *testing.T) {
	const calls = 9
	kinds := []kind{doPut, doTake, doDrain}
	rows := 1
	for range calls {
		rows *= len(kinds)
	}
	for _, n := range []int{2, 4, 8} {
		for row := range rows {
			q := made(t, n)
			var in []uint64
			for i, left := 0, row; i < calls; i, left = i+1, left/len(kinds) {
				v := uint64(10 + i)
				switch kinds[left%len(kinds)] {
				case doPut:
					room := len(in) < n
					is(t, "Put", q, nil, ask{doPut, v}, answer{nil, room, api.OK})
					if room {
						in = append(in, v)
					}
				case doTake:
					want := no()
					if len(in) > 0 {
						want = took(in[0])
						in = in[1:]
					}
					is(t, "Take", q, nil, ask{doTake, 0}, want)
				default:
					is(t, "Drain", q, nil, ask{doDrain, 0}, list(in...))
					in = nil
				}
			}
			holds(t, "at the end", q, in...)
		}
	}
}

func TestP74ALongRow(t *testing.T) {
	for _, n := range sizes() {
		q := made(t, n)
		next, front := uint64(0), uint64(0)
		for round := range 40 {
			// Now more are put in than taken, now the other way round.
			for range (round*7)%n + 1 {
				room := next-front < uint64(n)
				is(t, "Put", q, nil, ask{doPut, next}, answer{nil, room, api.OK})
				if room {
					next++
				}
			}
			for range (round*5)%n + 1 {
				if front == next {
					is(t, "Take", q, nil, ask{doTake, 0}, no())
					continue
				}
				is(t, "Take", q, nil, ask{doTake, 0}, took(front))
				front++
			}
		}
		holds(t, "at the end", q, from(front, int(next-front))...)
	}
}
