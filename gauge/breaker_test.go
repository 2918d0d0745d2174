package gauge_test

import (
	"slices"
	"testing"

	"patchbay/api"
	"patchbay/gauge"
	"patchbay/plays"
	"patchbay/turn"
)

func TestP143NewBreaker(t *testing.T) {
	fails, wrongFails := edges(api.MaxLimit)
	waits, wrongWaits := edges(api.MaxTick)
	for _, n := range fails {
		for _, wait := range waits {
			b := of(n, wait).breaker(t)
			saysBy(t, "NewBreaker", b, look(), stands(gauge.Closed, 0, 0), load(0))
			saysBy(t, "NewBreaker", b, ask(0), may(true), load(0))
			saysBy(t, "NewBreaker", b, ask(api.MaxTick), may(true), load(0))
			saysBy(t, "NewBreaker", b, good(7), heard(), load(0))
			saysBy(t, "NewBreaker", b, look(), stands(gauge.Closed, 0, 0), load(0))
		}
	}
	none := func(n, wait uint64) {
		t.Helper()
		if b, e := gauge.NewBreaker(n, wait); b != nil || e != api.ErrArg {
			t.Errorf("NewBreaker(%d, %d): %v, %v", n, wait, b, e)
		}
	}
	for _, n := range wrongFails {
		for _, wait := range slices.Concat(waits, wrongWaits) {
			none(n, wait)
		}
	}
	for _, wait := range wrongWaits {
		for _, n := range fails {
			none(n, wait)
		}
	}
}

// TestP143TheStates: a test that asks for the names alone would not tell which numbers they are.
func TestP143TheStates(t *testing.T) {
	if gauge.Closed != 0 || gauge.Open != 1 || gauge.Trying != 2 {
		t.Errorf("%d, %d, %d", gauge.Closed, gauge.Open, gauge.Trying)
	}
}

// TestP145FailsThatOpen: so many fails, one behind the other, and no fewer.
func TestP145FailsThatOpen(t *testing.T) {
	fit, _ := edges(api.MaxLimit)
	for _, n := range fit {
		b := of(n, 10).breaker(t)
		for i := range n - 1 {
			if e := b.Tell(nil, i%1000, false); e != api.OK {
				t.Fatalf("Tell %d: %v", i, e)
			}
		}
		saysBy(t, "one ahead of the last", b, look(), stands(gauge.Closed, n-1, 0), load(0))
		saysBy(t, "one ahead of the last", b, ask(0), may(true), load(0))
		saysBy(t, "the last one", b, bad(77), heard(), load(0), cas(0))
		saysBy(t, "it is open", b, look(), stands(gauge.Open, n, 77), load(0))
		for _, q := range queries(bad(78), bad(0), bad(api.MaxTick), good(78), good(0), good(1000)) {
			saysBy(t, "it is open", b, q, heard(), load(0))
			saysBy(t, "it is open", b, look(), stands(gauge.Open, n, 77), load(0))
		}
		saysBy(t, "it is open", b, ask(86), may(false), load(0))
		saysBy(t, "it is due", b, ask(87), may(true), load(0), cas(0))
		saysBy(t, "it tries", b, look(), stands(gauge.Trying, n, 87), load(0))
		saysBy(t, "it tries", b, bad(5), heard(), load(0), cas(0))
		saysBy(t, "it is open again", b, look(), stands(gauge.Open, n, 5), load(0))
	}
}

// TestP145FailsInBetween: one that went well, and the fails are counted anew; so they are when it tried, and that went well.
func TestP145FailsInBetween(t *testing.T) {
	for n := uint64(1); n < 9; n++ {
		b := of(n, 3).breaker(t)
		for fails := range n {
			for i := range fails {
				saysBy(t, "closed", b, bad(i), heard(), load(0), cas(0))
				saysBy(t, "closed", b, look(), stands(gauge.Closed, i+1, 0), load(0))
				saysBy(t, "closed", b, ask(api.MaxTick-i), may(true), load(0))
			}
			marks := []api.Mark{load(0), cas(0)}
			if fails == 0 {
				marks = marks[:1]
			}
			saysBy(t, "that went well", b, good(50), heard(), marks...)
			saysBy(t, "that went well", b, look(), stands(gauge.Closed, 0, 0), load(0))
		}
		for range 3 {
			for i := range n {
				saysBy(t, "closed", b, bad(9), heard(), load(0), cas(0))
				if i+1 < n {
					saysBy(t, "closed", b, look(), stands(gauge.Closed, i+1, 0), load(0))
				}
			}
			saysBy(t, "open", b, look(), stands(gauge.Open, n, 9), load(0))
			saysBy(t, "due", b, ask(20), may(true), load(0), cas(0))
			saysBy(t, "trying", b, good(21), heard(), load(0), cas(0))
			saysBy(t, "closed again", b, look(), stands(gauge.Closed, 0, 0), load(0))
			saysBy(t, "closed again", b, ask(0), may(true), load(0))
		}
	}
}

// sinces are the least and the greatest ticks, and some between.
func sinces() []uint64 {
	return []uint64{0, 1, 5, 1<<21 - 1, 1 << 21, 1<<39 + 12345, api.MaxTick - 1, api.MaxTick}
}

// TestP144Due: open and trying alike, since each tick and with each wait, at the ticks about the one from which on it is due.
func TestP144Due(t *testing.T) {
	waits, _ := edges(api.MaxTick)
	for _, since := range sinces() {
		for _, wait := range waits {
			for _, fails := range []uint64{1, 2, 300} {
				ahead := again(int(fails), bad(since))
				from := since + wait
				s := stands(gauge.Open, fails, since)
				for range 2 {
					dueAbout(t, of(fails, wait, ahead...), s, from)
					// The same again when somebody has tried.
					if from > api.MaxTick {
						break
					}
					ahead = append(ahead, ask(from))
					s = stands(gauge.Trying, fails, from)
					from += wait
				}
			}
		}
	}
}

// dueAbout holds a breaker that begins so, and stands so, against the tick from which on it is due.
func dueAbout(t *testing.T, begin start, s said, from uint64) {
	t.Helper()
	early := begin.breaker(t)
	for _, now := range []uint64{0, s.is.since - min(s.is.since, 1), s.is.since, from/2 + 1, from - 1, api.MaxTick} {
		if now < from && now <= api.MaxTick {
			saysBy(t, "too early", early, ask(now), may(false), load(0))
			saysBy(t, "too early", early, look(), s, load(0))
		}
	}
	for _, now := range []uint64{from, from + 1, from/2 + api.MaxTick/2, api.MaxTick} {
		if now < from || now > api.MaxTick {
			continue
		}
		b := begin.breaker(t)
		saysBy(t, "due", b, ask(now), may(true), load(0), cas(0))
		saysBy(t, "trying", b, look(), stands(gauge.Trying, s.is.fails, now), load(0))
		saysBy(t, "trying", b, ask(now), may(false), load(0))
		saysBy(t, "trying", b, ask(0), may(false), load(0))
		saysBy(t, "trying", b, look(), stands(gauge.Trying, s.is.fails, now), load(0))
	}
}

// opened answers a breaker with a wait of one tick that so many fails have opened at that tick.
func opened(t *testing.T, fails, now uint64) *gauge.Breaker {
	t.Helper()
	b := of(fails, 1).breaker(t)
	for range fails {
		b.Tell(nil, now, false)
	}
	says(t, "opened", b, nil, look(), stands(gauge.Open, fails, now))
	return b
}

// TestP145TellsOfOneThatTries: at each tick, earlier ones, too, and again and again.
func TestP145TellsOfOneThatTries(t *testing.T) {
	for _, fails := range []uint64{1, 2, 3, 1000, api.MaxLimit} {
		for _, now := range sinces() {
			b, since := opened(t, fails, 8), uint64(8)
			for _, at := range []uint64{3, 2, 99, 0, now} {
				saysBy(t, "due", b, ask(since+1), may(true), load(0), cas(0))
				saysBy(t, "trying", b, bad(at), heard(), load(0), cas(0))
				saysBy(t, "open again", b, look(), stands(gauge.Open, fails, at), load(0))
				since = at
			}
			if since == api.MaxTick {
				saysBy(t, "open since the last tick", b, ask(since), may(false), load(0))
				continue
			}
			saysBy(t, "due", b, ask(since+1), may(true), load(0), cas(0))
			saysBy(t, "trying", b, good(now), heard(), load(0), cas(0))
			saysBy(t, "closed", b, look(), stands(gauge.Closed, 0, 0), load(0))
			saysBy(t, "closed", b, good(now), heard(), load(0))
		}
	}
}

func TestP144Examples(t *testing.T) {
	for _, x := range [][2]uint64{{0, 1}, {1, 0}} {
		if b, e := gauge.NewBreaker(x[0], x[1]); b != nil || e != api.ErrArg {
			t.Errorf("NewBreaker(%v): %v, %v", x, b, e)
		}
	}
	b := of(2, 10).breaker(t)
	for i, x := range []struct {
		q    query
		want said
	}{
		{bad(5), heard()},
		{ask(5), may(true)},
		{bad(6), heard()},
		{ask(15), may(false)},
		{ask(16), may(true)},
		{ask(17), may(false)},
		{look(), stands(gauge.Trying, 2, 16)},
		{bad(18), heard()},
		{ask(27), may(false)},
		{ask(28), may(true)},
		{good(28), heard()},
		{look(), stands(gauge.Closed, 0, 0)},
		{bad(1), heard()},
		{good(2), heard()},
		{bad(3), heard()},
		{ask(4), may(true)},
	} {
		if got := x.q.of(b, nil); got != x.want {
			t.Errorf("%d: %v: %v, not %v", i, x.q, got, x.want)
		}
	}
}

// breakers are some in each state: closed with no fails and with some, open, trying.
func breakers() map[string]start {
	return map[string]start{
		"closed":           of(2, 10),
		"closed, one fail": of(2, 10, bad(5)),
		"open":             of(2, 10, bad(5), bad(6)),
		"trying":           of(2, 10, bad(5), bad(6), ask(16)),
		"the greatest":     of(1, api.MaxTick, bad(0), ask(api.MaxTick)),
	}
}

// TestP144TicksThatAreNone: no operation is done, whatever the breaker is.
func TestP144TicksThatAreNone(t *testing.T) {
	for name, s := range breakers() {
		b := s.breaker(t)
		want := look().of(b, nil)
		for _, now := range late() {
			for _, q := range queries(ask(now), good(now), bad(now)) {
				saysBy(t, name, b, q, refused(api.ErrArg))
				says(t, name, b, nil, q, refused(api.ErrArg))
			}
		}
		saysBy(t, name, b, look(), want, load(0))
	}
}

func TestP144BreakersThatAreNone(t *testing.T) {
	for about, s := range breakers() {
		whole := s.breaker(t)
		want := look().of(whole, nil)
		for name, b := range map[string]*gauge.Breaker{"nil": nil, "a zero value": {}, "new": new(gauge.Breaker), "a copy": plays.Copied(whole)} {
			list := queries(ask(0), ask(16), ask(api.MaxTick), good(3), bad(3), bad(4), bad(5), good(api.MaxTick), look())
			// ErrNil comes ahead of all else.
			for _, now := range late() {
				list = append(list, ask(now), good(now), bad(now))
			}
			for _, q := range list {
				saysBy(t, name, b, q, refused(api.ErrNil))
				says(t, name, b, nil, q, refused(api.ErrNil))
			}
		}
		says(t, about+", the whole one", whole, nil, look(), want)
	}
}

func TestP145BreakersAreTheirOwn(t *testing.T) {
	a, b := of(1, 5).breaker(t), of(2, 9).breaker(t)
	says(t, "a", a, nil, bad(3), heard())
	says(t, "b", b, nil, look(), stands(gauge.Closed, 0, 0))
	says(t, "b", b, nil, bad(4), heard())
	says(t, "b", b, nil, bad(4), heard())
	says(t, "a", a, nil, ask(8), may(true))
	says(t, "b", b, nil, ask(12), may(false))
	says(t, "a", a, nil, look(), stands(gauge.Trying, 1, 8))
	says(t, "b", b, nil, look(), stands(gauge.Open, 2, 4))
}

// TestP145FreeCallsAnswerTheSame: a gate that is nil is told nothing, and one that is a nil pointer is no nil gate: it is told, and does nothing.
func TestP145FreeCallsAnswerTheSame(t *testing.T) {
	for name, s := range breakers() {
		free, under, nobody := s.breaker(t), s.breaker(t), s.breaker(t)
		for i := range uint64(400) {
			now := i * 7 % 90
			q := queries(bad(now), look(), ask(now), bad(now+3), ask(now+20), good(now), ask(now+api.MaxTick))[i*i%101%7]
			want := q.of(under, turn.NewNotes())
			says(t, name+", free", free, nil, q, want)
			says(t, name+", a nil pointer", nobody, (*turn.Notes)(nil), q, want)
		}
		want := look().of(under, nil)
		says(t, name+", free", free, nil, look(), want)
		says(t, name+", a nil pointer", nobody, nil, look(), want)
	}
}
