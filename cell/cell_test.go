package cell

import (
	"slices"
	"testing"

	"patchbay/api"
	"patchbay/turn"
)

const top = 1<<64 - 1

// edges are numbers at which sums and differences may go round.
func edges() []uint64 {
	return []uint64{0, 1, 2, 5, 1<<32 - 1, 1 << 32, 1<<63 - 1, 1 << 63, 1<<63 + 1, top - 1, top}
}

// copied answers an object with the same fields that no call of the package made.
func copied[T any](p *T) *T {
	q := *p
	return &q
}

// told answers the marks of which a call tells its gate.
func told(call func(g api.Gate)) []api.Mark {
	n := turn.NewNotes()
	call(n)
	return n.Marks()
}

// tells ends in an error, if a call tells its gate of other operations than these, in this order, all of the word 0.
func tells(t *testing.T, name string, call func(g api.Gate), want ...api.OpKind) {
	t.Helper()
	var marks []api.Mark
	for _, op := range want {
		marks = append(marks, api.Mark{Op: op, Word: 0})
	}
	if got := told(call); !slices.Equal(got, marks) {
		t.Errorf("%s tells %v, not %v", name, got, marks)
	}
}

// counterIs ends in an error, if a counter has another number.
func counterIs(t *testing.T, c *Counter, want uint64) {
	t.Helper()
	if v, e := c.Get(nil); v != want || e != api.OK {
		t.Errorf("Get: %d, %v, not %d", v, e, want)
	}
}

// boxIs ends in an error, if another value stands in a box, or with another number.
func boxIs[T comparable](t *testing.T, b *Box[T], want T, number uint64) {
	t.Helper()
	if v, n, e := b.Get(nil); v != want || n != number || e != api.OK {
		t.Errorf("Get: %v, %d, %v, not %v, %d", v, n, e, want, number)
	}
}

// everyPlay plays the threads that begin makes, anew for each play, by every order that there is, and shows each play.
func everyPlay(t *testing.T, begin func() []func(g api.Gate), show func(p api.Played)) {
	t.Helper()
	plays := 0
	var from func(order []int)
	from = func(order []int) {
		threads := begin()
		p, e := turn.Play(order, threads...)
		if e != api.OK || len(p.Cut) != 0 {
			t.Fatalf("Play of %v: %v, cut %v", order, e, p.Cut)
		}
		if n := len(order); n > len(p.Trace) || n > 0 && p.Trace[n-1].Thread != order[n-1] {
			return // that thread had ended: it is another order's play
		}
		plays++
		show(p)
		for at := len(order); at < len(p.Trace); at++ {
			for k := range threads {
				if k != p.Trace[at].Thread {
					from(append(threadsOf(p.Trace[:at]), k))
				}
			}
		}
	}
	from(nil)
	if plays < 2 {
		t.Errorf("%d plays", plays)
	}
}

// threadsOf answers a trace as an order.
func threadsOf(trace []api.Turned) []int {
	order := []int{}
	for _, x := range trace {
		order = append(order, x.Thread)
	}
	return order
}

func TestEveryPlayIsEveryOrder(t *testing.T) {
	f := NewFlag()
	steps := []int{3, 2, 2}
	seen := map[string]bool{}
	everyPlay(t, func() []func(g api.Gate) {
		var threads []func(g api.Gate)
		for _, n := range steps {
			threads = append(threads, func(g api.Gate) {
				for range n {
					f.Set(g)
				}
			})
		}
		return threads
	}, func(p api.Played) {
		key := ""
		for _, k := range threadsOf(p.Trace) {
			key += string(rune('0' + k))
		}
		if seen[key] {
			t.Errorf("twice: %s", key)
		}
		seen[key] = true
	})
	if want, _ := turn.Count(steps...); len(seen) != want {
		t.Errorf("%d plays, not %d", len(seen), want)
	}
}
