package gauge_test

import (
	"slices"
	"testing"

	"patchbay/api"
	"patchbay/gauge"
	"patchbay/plays"
)

const top = 1<<64 - 1

// move is a call of a gauge.
type move int

const (
	enter move = iota
	leave
	get
)

// came is what such a call answers: an Enter whether one is in, a Get two numbers.
type came struct {
	ok       bool
	in, peak uint64
	e        api.Errno
}

// let, full, counts and not are such answers.
func let() came                   { return came{ok: true} }
func full() came                  { return came{} }
func left() came                  { return came{} }
func counts(in, peak uint64) came { return came{in: in, peak: peak} }
func not(e api.Errno) came        { return came{e: e} }
func sameCame(a, b came) bool     { return a == b }

// moves are the calls of a gauge by one thread, one after the other; repeated are these so many times over; threads are so many that all do these.
func moves(list ...move) []move            { return list }
func repeated(n int, list ...move) []move  { return slices.Repeat(list, n) }
func threads(n int, list ...move) [][]move { return slices.Repeat([][]move{list}, n) }

// room is a gauge, or the twin of one.
type room interface {
	Enter(g api.Gate) (bool, api.Errno)
	Leave(g api.Gate) api.Errno
	Get(g api.Gate) (in, peak uint64, e api.Errno)
}

// of asks a room.
func (m move) of(o room, g api.Gate) (x came) {
	switch m {
	case enter:
		x.ok, x.e = o.Enter(g)
	case leave:
		x.e = o.Leave(g)
	case get:
		x.in, x.peak, x.e = o.Get(g)
	}
	return x
}

// The calls of a breaker.
const (
	doAsk = iota
	doTell
	doGet
)

// query is a call of a breaker: of an Ask and a Tell the tick, of a Tell whether it went well.
type query struct {
	call int
	now  uint64
	good bool
}

func ask(now uint64) query  { return query{call: doAsk, now: now} }
func good(now uint64) query { return query{doTell, now, true} }
func bad(now uint64) query  { return query{doTell, now, false} }
func look() query           { return query{call: doGet} }

// said is what such a call answers: an Ask whether one may, a Get what the breaker is.
type said struct {
	ok bool
	is standing
	e  api.Errno
}

// standing is what a breaker is: its state, how many fails there were, since when.
type standing struct {
	state        int
	fails, since uint64
}

// may, heard, stands and refused are such answers.
func may(ok bool) said                           { return said{ok: ok} }
func heard() said                                { return said{} }
func stands(state int, fails, since uint64) said { return said{is: standing{state, fails, since}} }
func refused(e api.Errno) said                   { return said{e: e} }
func sameSaid(a, b said) bool                    { return a == b }

// queries, again and askers are calls of a breaker likewise.
func queries(list ...query) []query         { return list }
func again(n int, list ...query) []query    { return slices.Repeat(list, n) }
func askers(n int, list ...query) [][]query { return slices.Repeat([][]query{list}, n) }

// switcher is a breaker, or the twin of one.
type switcher interface {
	Ask(g api.Gate, now uint64) (bool, api.Errno)
	Tell(g api.Gate, now uint64, good bool) api.Errno
	Get(g api.Gate) (state int, fails, since uint64, e api.Errno)
}

// of asks a switcher.
func (q query) of(o switcher, g api.Gate) (x said) {
	switch q.call {
	case doAsk:
		x.ok, x.e = o.Ask(g, q.now)
	case doTell:
		x.e = o.Tell(g, q.now, q.good)
	case doGet:
		x.is.state, x.is.fails, x.is.since, x.e = o.Get(g)
	}
	return x
}

// The two kinds of objects that are asked in plays.
type (
	askedRoom     = plays.Object[move, came]
	askedSwitcher = plays.Object[query, said]
)

// roomIs answers a room as one that is asked in plays.
func roomIs(o room) askedRoom {
	return askedRoom{
		Of: func(m move, g api.Gate) came { return m.of(o, g) },
		Words: func() []uint64 {
			x := get.of(o, nil)
			return []uint64{x.in, x.peak}
		},
		Same: sameCame,
	}
}

// switcherIs answers a switcher as one that is asked in plays.
func switcherIs(o switcher) askedSwitcher {
	return askedSwitcher{
		Of: func(q query, g api.Gate) said { return q.of(o, g) },
		Words: func() []uint64 {
			x := look().of(o, nil).is
			return []uint64{uint64(x.state), x.fails, x.since}
		},
		Same: sameSaid,
	}
}

// load and cas are the marks of operations of that word.
var load, cas = plays.Load, plays.CAS

// The operations of an Enter that meets nobody: of one behind which there are more than ever, and of one behind which there are not.
func peakSteps() []api.Mark  { return []api.Mark{load(0), cas(0), load(1), cas(1)} }
func enterSteps() []api.Mark { return peakSteps()[:3] }

// made answers a gauge with that limit that was asked so ahead, and ends the test where there is none, or one was not let.
func made(t *testing.T, limit uint64, ahead ...move) *gauge.Gauge {
	t.Helper()
	x, e := gauge.New(limit)
	if x == nil || e != api.OK {
		t.Fatalf("New(%d): %v, %v", limit, x, e)
	}
	for _, m := range ahead {
		if got := m.of(x, nil); got != (came{ok: m == enter}) {
			t.Fatalf("a limit of %d, ahead: %v: %v", limit, m, got)
		}
	}
	return x
}

// start is a breaker's fails and wait, and what it was asked and told ahead.
type start struct {
	fails, wait uint64
	ahead       []query
}

// of answers how a breaker begins.
func of(fails, wait uint64, ahead ...query) start { return start{fails, wait, ahead} }

// breaker answers one that begins so, and ends the test where there is none.
func (s start) breaker(t *testing.T) *gauge.Breaker {
	t.Helper()
	b, e := gauge.NewBreaker(s.fails, s.wait)
	if b == nil || e != api.OK {
		t.Fatalf("NewBreaker(%d, %d): %v, %v", s.fails, s.wait, b, e)
	}
	for _, q := range s.ahead {
		if got := q.of(b, nil); got != (said{ok: q.call == doAsk}) {
			t.Fatalf("%v, ahead: %v: %v", s, q, got)
		}
	}
	return b
}

// is and tells end in an error, if a gauge answers otherwise, or tells its gate of other operations.
func is(t *testing.T, name string, x *gauge.Gauge, g api.Gate, m move, want came) {
	t.Helper()
	plays.Is(t, name, roomIs(x), g, m, want)
}

func tells(t *testing.T, name string, x *gauge.Gauge, m move, want came, marks ...api.Mark) {
	t.Helper()
	plays.Tells(t, name, roomIs(x), m, want, marks...)
}

// says and saysBy do the same of a breaker.
func says(t *testing.T, name string, b *gauge.Breaker, g api.Gate, q query, want said) {
	t.Helper()
	plays.Is(t, name, switcherIs(b), g, q, want)
}

func saysBy(t *testing.T, name string, b *gauge.Breaker, q query, want said, marks ...api.Mark) {
	t.Helper()
	plays.Tells(t, name, switcherIs(b), q, want, marks...)
}

// edges are numbers from 1 to most that may be: the least, the greatest, some between; and some that may not be.
func edges(most uint64) (fit, unfit []uint64) {
	fit = []uint64{1, 2, 3, 255, 256, most / 2, most - 1, most}
	unfit = []uint64{0, most + 1, most + 2, 2*most - 1, 2 * most, 2*most + 1, 1<<63 + 1, top - 1, top}
	return
}

// late are ticks that are none.
func late() []uint64 {
	return []uint64{api.MaxTick + 1, api.MaxTick + 2, 2*api.MaxTick - 1, 2 * api.MaxTick, 1 << 48, 1 << 63, top - 1, top}
}
