package gauge_test

import (
	"testing"

	"patchbay/api"
	"patchbay/gauge"
	"patchbay/plays"
	"patchbay/turn"
)

func TestP141New(t *testing.T) {
	fit, unfit := edges(api.MaxLimit)
	for _, limit := range fit {
		x := made(t, limit)
		tells(t, "New", x, get, counts(0, 0), load(0), load(1))
		is(t, "New", x, nil, leave, not(api.ErrState))
		is(t, "New", x, nil, enter, let())
		is(t, "New", x, nil, get, counts(1, 1))
	}
	for _, limit := range unfit {
		if x, e := gauge.New(limit); x != nil || e != api.ErrArg {
			t.Errorf("New(%d): %v, %v", limit, x, e)
		}
	}
}

// fill enters till so many are in, and ends the test where one can't.
func fill(t *testing.T, x *gauge.Gauge, n uint64) {
	t.Helper()
	for i := range n {
		if ok, e := x.Enter(nil); !ok || e != api.OK {
			t.Fatalf("Enter behind %d: %v, %v", i, ok, e)
		}
	}
}

// TestP142Limits: just so many get in, and once one has left one more.
func TestP142Limits(t *testing.T) {
	fit, _ := edges(api.MaxLimit)
	for _, limit := range fit {
		x := made(t, limit)
		fill(t, x, limit-1)
		tells(t, "one ahead of the limit", x, get, counts(limit-1, limit-1), load(0), load(1))
		tells(t, "the last one", x, enter, let(), peakSteps()...)
		for range 3 {
			tells(t, "it is full", x, enter, full(), load(0))
			tells(t, "it is full", x, get, counts(limit, limit), load(0), load(1))
		}
		tells(t, "it is full", x, leave, left(), load(0), cas(0))
		tells(t, "one has left", x, get, counts(limit-1, limit), load(0), load(1))
		tells(t, "one has left", x, enter, let(), enterSteps()...)
		tells(t, "it is full again", x, enter, full(), load(0))
		for in := limit; in > 0; in-- {
			if e := x.Leave(nil); e != api.OK {
				t.Fatalf("Leave, when %d are in: %v", in, e)
			}
		}
		for range 3 {
			tells(t, "all have left", x, leave, not(api.ErrState), load(0))
			tells(t, "all have left", x, get, counts(0, limit), load(0), load(1))
		}
		tells(t, "all have left", x, enter, let(), enterSteps()...)
		tells(t, "one is in", x, get, counts(1, limit), load(0), load(1))
	}
}

// TestP142UpAndDown: at each number of those that are in, the peak being each number from it on.
func TestP142UpAndDown(t *testing.T) {
	const limit = 40
	for peak := uint64(1); peak <= limit; peak++ {
		for in := uint64(0); in <= peak; in++ {
			x := made(t, limit)
			fill(t, x, peak)
			for range peak - in {
				is(t, "on the way down", x, nil, leave, left())
			}
			is(t, "on the way down", x, nil, get, counts(in, peak))
			want, marks := counts(in+1, max(peak, in+1)), enterSteps()
			if in == peak {
				marks = peakSteps()
			}
			if in == limit {
				want = counts(in, peak)
				tells(t, "full", x, enter, full(), load(0))
			} else {
				tells(t, "up", x, enter, let(), marks...)
			}
			tells(t, "up", x, get, want, load(0), load(1))
			if want.in > 0 {
				tells(t, "down", x, leave, left(), load(0), cas(0))
				tells(t, "down", x, get, counts(want.in-1, want.peak), load(0), load(1))
			}
		}
	}
}

func TestP142Examples(t *testing.T) {
	for _, limit := range []uint64{0, 1<<20 + 1} {
		if x, e := gauge.New(limit); x != nil || e != api.ErrArg {
			t.Errorf("New(%d): %v, %v", limit, x, e)
		}
	}
	x := made(t, 2)
	is(t, "an example", x, nil, enter, let())
	is(t, "an example", x, nil, enter, let())
	is(t, "an example", x, nil, enter, full())
	is(t, "an example", x, nil, leave, left())
	is(t, "an example", x, nil, enter, let())
	is(t, "an example", x, nil, get, counts(2, 2))
	x = made(t, 2)
	tells(t, "of a new one", x, leave, not(api.ErrState), load(0))
	tells(t, "of a new one", x, enter, let(), load(0), cas(0), load(1), cas(1))
}

func TestP142GaugesThatAreNone(t *testing.T) {
	whole := made(t, 3, enter, enter, leave)
	for name, x := range map[string]*gauge.Gauge{"nil": nil, "a zero value": {}, "new": new(gauge.Gauge), "a copy": plays.Copied(whole)} {
		for _, m := range moves(enter, leave, get, leave, enter, enter, enter, enter, get) {
			tells(t, name, x, m, not(api.ErrNil))
			is(t, name, x, nil, m, not(api.ErrNil))
		}
	}
	is(t, "the whole one", whole, nil, get, counts(1, 2))
}

func TestP142GaugesAreTheirOwn(t *testing.T) {
	a, b := made(t, 1), made(t, 2)
	is(t, "a", a, nil, enter, let())
	is(t, "b", b, nil, get, counts(0, 0))
	is(t, "b", b, nil, enter, let())
	is(t, "b", b, nil, enter, let())
	is(t, "a", a, nil, get, counts(1, 1))
	is(t, "a", a, nil, leave, left())
	is(t, "b", b, nil, get, counts(2, 2))
}

// TestP142FreeCallsAnswerTheSame: a gate that is nil is told nothing, and one that is a nil pointer is no nil gate: it is told, and does nothing.
func TestP142FreeCallsAnswerTheSame(t *testing.T) {
	for _, limit := range []uint64{1, 2, 3, 10, api.MaxLimit} {
		free, under, nobody := made(t, limit), made(t, limit), made(t, limit)
		for i := range 300 {
			m := moves(enter, enter, get, leave, enter, leave, leave, enter, get, leave, leave)[i*i%97%11]
			want := m.of(under, turn.NewNotes())
			is(t, "free", free, nil, m, want)
			is(t, "a nil pointer", nobody, (*turn.Notes)(nil), m, want)
		}
		want := get.of(under, nil)
		is(t, "free", free, nil, get, want)
		is(t, "a nil pointer", nobody, nil, get, want)
	}
}
