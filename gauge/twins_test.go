package gauge_test

import (
	"testing"

	"patchbay/api"
	"patchbay/gates"
	"patchbay/gauge"
	"patchbay/plays"
)

// twin does what the chapter's steps say of a gauge, by one thread at a time.
type twin struct {
	limit uint64
	words [2]uint64
	swaps [2]int // how often each was swapped
	met   meetings
}

// meetings are how often calls met others: a compare and swap that did not swap, for the first time and again; a Load behind such a one that found nothing to swap any more; a compare and swap that swapped, since what the others had changed ahead of it was as it had been; those of the first three that were done to the peak; a Get that was not of one moment.
type meetings struct {
	round, again             int
	overtaken                int
	unchanged                int
	higher, highest, reached int
	torn                     int
}

// add counts those of another play, too.
func (m *meetings) add(x meetings) {
	m.round += x.round
	m.again += x.again
	m.overtaken += x.overtaken
	m.unchanged += x.unchanged
	m.higher += x.higher
	m.highest += x.highest
	m.reached += x.reached
	m.torn += x.torn
}

// goesRound counts a compare and swap that did not swap.
func (m *meetings) goesRound(round int) {
	m.round++
	if round > 0 {
		m.again++
	}
}

// load answers a word, and how often it was swapped.
func (w *twin) load(g api.Gate, word int) (uint64, int) {
	gates.Tell(g, api.OpLoad, word)
	return w.words[word], w.swaps[word]
}

// swap is a compare and swap of a word that was loaded when it had been swapped so often.
func (w *twin) swap(g api.Gate, word int, from, to uint64, swaps int) bool {
	gates.Tell(g, api.OpCAS, word)
	if w.words[word] != from {
		return false
	}
	if w.swaps[word] > swaps {
		w.met.unchanged++
	}
	w.words[word] = to
	w.swaps[word]++
	return true
}

func (w *twin) Enter(g api.Gate) (bool, api.Errno) {
	for round := 0; ; round++ {
		n, swaps := w.load(g, 0)
		if n >= w.limit {
			if round > 0 {
				w.met.overtaken++
			}
			return false, api.OK
		}
		if w.swap(g, 0, n, n+1, swaps) {
			w.reach(g, n+1)
			return true, api.OK
		}
		w.met.goesRound(round)
	}
}

// reach makes the peak n, if it is below.
func (w *twin) reach(g api.Gate, n uint64) {
	for round := 0; ; round++ {
		p, swaps := w.load(g, 1)
		if p >= n {
			if round > 0 {
				w.met.reached++
			}
			return
		}
		if w.swap(g, 1, p, n, swaps) {
			return
		}
		w.met.higher++
		if round > 0 {
			w.met.highest++
		}
	}
}

func (w *twin) Leave(g api.Gate) api.Errno {
	for round := 0; ; round++ {
		n, swaps := w.load(g, 0)
		if n == 0 {
			if round > 0 {
				w.met.overtaken++
			}
			return api.ErrState
		}
		if w.swap(g, 0, n, n-1, swaps) {
			return api.OK
		}
		w.met.goesRound(round)
	}
}

func (w *twin) Get(g api.Gate) (in, peak uint64, e api.Errno) {
	in, swaps := w.load(g, 0)
	peak, _ = w.load(g, 1)
	if w.swaps[0] > swaps {
		w.met.torn++
	}
	return in, peak, api.OK
}

// roomPlay is threads that ask so of a gauge with that limit, of which that was asked ahead, by all orders of so many first turns.
type roomPlay struct {
	turns int
	limit uint64
	ahead []move
	asks  [][]move
}

// twin answers a twin that begins so.
func (x roomPlay) twin() *twin {
	w := &twin{limit: x.limit}
	for _, m := range x.ahead {
		m.of(w, nil)
	}
	return w
}

// roomsByAllOrders holds what threads are answered against the twin and against the words of P14.6, and answers what the twin's calls met.
func roomsByAllOrders(t *testing.T, list ...roomPlay) meetings {
	t.Helper()
	var met meetings
	for _, x := range list {
		var o *gauge.Gauge
		for p, calls := range plays.Twins(t, x.turns, x.asks, func() askedRoom {
			o = made(t, x.limit, x.ahead...)
			return roomIs(o)
		}, func() askedRoom {
			w := x.twin()
			y := roomIs(w)
			y.Words = func() []uint64 {
				met.add(w.met)
				return w.words[:]
			}
			return y
		}) {
			x.follows(t, p, o, calls)
		}
	}
	return met
}

// switchTwin does what the chapter's steps say of a breaker, by one thread at a time; it does not pack what that is.
type switchTwin struct {
	fails, wait uint64
	is          standing
	swaps       int
	met         meetings
}

// load answers what it is, and how often that was swapped.
func (w *switchTwin) load(g api.Gate) (standing, int) {
	gates.Tell(g, api.OpLoad, 0)
	return w.is, w.swaps
}

// swap is a compare and swap of what was loaded when it had been swapped so often, in a call that went round so often.
func (w *switchTwin) swap(g api.Gate, from, to standing, swaps, round int) bool {
	gates.Tell(g, api.OpCAS, 0)
	if w.is != from {
		w.met.goesRound(round)
		return false
	}
	if w.swaps > swaps {
		w.met.unchanged++
	}
	w.is = to
	w.swaps++
	return true
}

// stays counts a Load behind which there is nothing to swap.
func (w *switchTwin) stays(round int) {
	if round > 0 {
		w.met.overtaken++
	}
}

func (w *switchTwin) Ask(g api.Gate, now uint64) (bool, api.Errno) {
	if now > api.MaxTick {
		return false, api.ErrArg
	}
	for round := 0; ; round++ {
		s, swaps := w.load(g)
		if due := now >= s.since+w.wait; s.state == gauge.Closed || !due {
			w.stays(round)
			return s.state == gauge.Closed, api.OK
		}
		if w.swap(g, s, standing{gauge.Trying, s.fails, now}, swaps, round) {
			return true, api.OK
		}
	}
}

func (w *switchTwin) Tell(g api.Gate, now uint64, good bool) api.Errno {
	if now > api.MaxTick {
		return api.ErrArg
	}
	for round := 0; ; round++ {
		s, swaps := w.load(g)
		to := standing{}
		switch {
		case s.state == gauge.Open, s.state == gauge.Closed && good && s.fails == 0:
			w.stays(round)
			return api.OK
		case good:
		case s.state == gauge.Trying:
			to = standing{gauge.Open, s.fails, now}
		case s.fails+1 == w.fails:
			to = standing{gauge.Open, w.fails, now}
		default:
			to = standing{gauge.Closed, s.fails + 1, 0}
		}
		if w.swap(g, s, to, swaps, round) {
			return api.OK
		}
	}
}

func (w *switchTwin) Get(g api.Gate) (state int, fails, since uint64, e api.Errno) {
	s, _ := w.load(g)
	return s.state, s.fails, s.since, api.OK
}

// switchPlay is threads that ask so of a breaker that begins so, by all orders of so many first turns.
type switchPlay struct {
	turns int
	start start
	asks  [][]query
}

// twin answers a twin that begins so.
func (s start) twin() *switchTwin {
	w := &switchTwin{fails: s.fails, wait: s.wait}
	for _, q := range s.ahead {
		q.of(w, nil)
	}
	return w
}

// switchersByAllOrders holds what threads are answered against the twin and against the words of P14.6, and answers what the twin's calls met.
func switchersByAllOrders(t *testing.T, list ...switchPlay) meetings {
	t.Helper()
	var met meetings
	for _, x := range list {
		var b *gauge.Breaker
		for p, calls := range plays.Twins(t, x.turns, x.asks, func() askedSwitcher {
			b = x.start.breaker(t)
			return switcherIs(b)
		}, func() askedSwitcher {
			w := x.start.twin()
			y := switcherIs(w)
			words := y.Words
			y.Words = func() []uint64 {
				met.add(w.met)
				return words()
			}
			return y
		}) {
			x.follows(t, p, b, calls)
		}
	}
	return met
}
