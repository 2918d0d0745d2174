package cell

import (
	"slices"
	"testing"

	"patchbay/api"
	"patchbay/plays"
)

const top = 1<<64 - 1

// edges are numbers at which sums and differences may go round.
func edges() []uint64 {
	return []uint64{0, 1, 2, 5, 1<<32 - 1, 1 << 32, 1<<63 - 1, 1 << 63, 1<<63 + 1, top - 1, top}
}

// tells ends in an error, if a call tells its gate of other operations than these, in this order, all of the word 0.
func tells(t *testing.T, name string, call func(g api.Gate), want ...api.OpKind) {
	t.Helper()
	var marks []api.Mark
	for _, op := range want {
		marks = append(marks, api.Mark{Op: op, Word: 0})
	}
	if got := plays.Told(call); !slices.Equal(got, marks) {
		t.Errorf("%s tells %v, not %v", name, got, marks)
	}
}

// counterIs ends in an error, if a counter has another number.
func counterIs(t *testing.T, c *Counter, want uint64) {
	t.Helper()
	if v, e := c.Get(nil); v != want || e != api.OK {
		t.Errorf("Get: %d, %v, not %d", v, e, want)
	}
}

// boxIs ends in an error, if another value stands in a box, or with another number.
func boxIs[T comparable](t *testing.T, b *Box[T], want T, number uint64) {
	t.Helper()
	if v, n, e := b.Get(nil); v != want || n != number || e != api.OK {
		t.Errorf("Get: %v, %d, %v, not %v, %d", v, n, e, want, number)
	}
}

// everyPlay plays the threads that begin makes, anew for each play, by every order that there is, and shows each play.
func everyPlay(t *testing.T, begin func() []func(g api.Gate), show func(p api.Played)) {
	t.Helper()
	for p := range plays.Whole(t, api.MaxTurns, begin) {
		show(p)
	}
}
