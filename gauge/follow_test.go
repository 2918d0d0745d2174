package gauge_test

import (
	"math/rand/v2"
	"slices"
	"testing"

	"patchbay/api"
	"patchbay/gauge"
	"patchbay/plays"
)

// doneRoom and doneSwitcher are calls of a play that have answered.
type (
	doneRoom     = plays.Done[move, came]
	doneSwitcher = plays.Done[query, said]
)

// change is one of how many are in: by which operation of a play, and whether one came (or else left).
type change struct {
	at    int
	comes bool
}

// changes answers those of these calls of a play, in their order: who enters is in from the last compare and swap of word 0 on, who leaves is out with his last operation.
func changes(p api.Played, calls []doneRoom) []change {
	var list []change
	for _, d := range calls {
		switch {
		case d.Ask == enter && d.Answer == let():
			at := d.To
			for x := p.Trace[at-1]; x.Thread != d.Thread || x.Mark != cas(0); x = p.Trace[at-1] {
				at--
			}
			list = append(list, change{at, true})
		case d.Ask == leave && d.Answer == left():
			list = append(list, change{d.To, false})
		}
	}
	slices.SortFunc(list, func(a, b change) int { return a.at - b.at })
	return list
}

// history is how many are in behind each operation of a play (ahead of all: 0), and the most that ever were.
func (x roomPlay) history(p api.Played, calls []doneRoom) (in []uint64, most uint64) {
	var n uint64
	for _, m := range x.ahead {
		if m == enter {
			n++
		} else {
			n--
		}
		most = max(most, n)
	}
	in = []uint64{n}
	all := changes(p, calls)
	for at := range p.Trace {
		if len(all) > 0 && all[0].at == at+1 {
			if all[0].comes {
				n++
			} else {
				n--
			}
			all = all[1:]
		}
		in, most = append(in, n), max(most, n)
	}
	return in, most
}

// follows holds a play of a gauge, which nobody uses any more, against the words of P14.6.
func (x roomPlay) follows(t *testing.T, p api.Played, o *gauge.Gauge, calls []doneRoom) {
	t.Helper()
	in, most := x.history(p, calls)
	// One who leaves though nobody is in makes it a number that is above all.
	if slices.Max(in) > x.limit {
		t.Errorf("%d are in, where %d may be: %v", slices.Max(in), x.limit, calls)
	}
	is(t, "at the end", o, nil, get, counts(in[len(p.Trace)], most))
	for _, d := range calls {
		fits := d.Answer.e == api.OK
		switch {
		case d.Ask == enter && !d.Answer.ok:
			fits = d.Answer == full() && in[d.To] == x.limit
		case d.Ask == leave && !fits:
			fits = d.Answer == not(api.ErrState) && in[d.To] == 0
		case d.Ask == get:
			fits = d.Answer.in == in[d.From] && d.Answer.peak <= most
		}
		if !fits {
			t.Errorf("%v, when there were in: %v", d, in)
		}
	}
	if t.Failed() {
		t.Fatalf("by %v", plays.Order(p.Trace)) // one play that is told is enough
	}
}

// watch knows of calls of a breaker, one behind the other, what P14.6 says of them.
type watch struct {
	fails uint64
	row   uint64          // how many Tells that were not good came one behind the other
	tried map[uint64]bool // the ticks of Asks that were true, since the last Tell, when it was not closed
}

// fits tells whether a call may be answered so, the breaker being that ahead of it, and that behind it.
func (w *watch) fits(q query, a said, was, is standing) bool {
	switch {
	case q.call == doGet || a.e != api.OK:
		return was == is
	case q.call == doAsk && was.state == gauge.Closed:
		return a.ok && was == is
	case q.call == doAsk:
		again := w.tried[q.now]
		w.tried[q.now] = again || a.ok
		return !again || !a.ok
	}
	clear(w.tried)
	w.row++
	if q.good {
		w.row = 0
	}
	if was.state == gauge.Closed && !q.good {
		return is.state == gauge.Open == (w.row == w.fails)
	}
	if was.state == gauge.Trying && q.good {
		return is == standing{}
	}
	return true
}

// follows holds a play of a breaker, which nobody uses any more, against the words of P14.6: each call answers what it answers one behind the other, in the order of the operations by which they end.
func (x switchPlay) follows(t *testing.T, p api.Played, b *gauge.Breaker, calls []doneSwitcher) {
	t.Helper()
	calls = slices.Clone(calls)
	slices.SortStableFunc(calls, func(a, b doneSwitcher) int { return a.To - b.To })
	alone, w := of(x.start.fails, x.start.wait).breaker(t), &watch{x.start.fails, 0, map[uint64]bool{}}
	one := func(q query, want said) {
		t.Helper()
		was := look().of(alone, nil).is
		got := q.of(alone, nil)
		if is := look().of(alone, nil).is; got != want || !w.fits(q, got, was, is) {
			t.Errorf("%v of %v: %v, and %v; in the play %v", q, was, got, is, want)
		}
	}
	for _, q := range x.start.ahead {
		one(q, said{ok: q.call == doAsk})
	}
	for _, d := range calls {
		one(d.Ask, d.Answer)
		// What is refused does nothing.
		if late := d.Ask.now > api.MaxTick; late != (d.To == 0) || late && d.Answer != refused(api.ErrArg) {
			t.Errorf("%v", d)
		}
	}
	says(t, "at the end", b, nil, look(), look().of(alone, nil))
	if t.Failed() {
		t.Fatalf("by %v", plays.Order(p.Trace)) // one play that is told is enough
	}
}

// lister makes lists of calls, always the same ones: it is no chance.
type lister struct{ from *rand.Rand }

// moves answers so many calls of a gauge, of which about as many in a hundred enter.
func (l lister) moves(calls, enters int) []move {
	var list []move
	for range calls {
		switch k := l.from.IntN(100); {
		case k < 5:
			list = append(list, get)
		case k < 5+enters:
			list = append(list, enter)
		default:
			list = append(list, leave)
		}
	}
	return list
}

// ahead answers calls of a gauge that all are let: up to so many who enter, some of whom leave again.
func (l lister) ahead(most uint64) []move {
	n := l.from.IntN(int(most) + 1)
	return slices.Concat(repeated(n, enter), repeated(l.from.IntN(n+1), leave))
}

// asTwin plays threads by that order, and holds what they are answered against the twin; it answers the play and the calls, the gauge, and what the twin's calls met.
func (x roomPlay) asTwin(t *testing.T, order []int) (api.Played, []doneRoom, *gauge.Gauge, meetings) {
	t.Helper()
	o, w := made(t, x.limit, x.ahead...), x.twin()
	p, calls := plays.AsTwin(t, order, x.asks, roomIs(o), roomIs(w))
	return p, calls, o, w.met
}

func TestP146LongPlays(t *testing.T) {
	l := lister{rand.New(rand.NewPCG(14, 2))}
	var met meetings
	for i := range 600 {
		x := roomPlay{limit: []uint64{1, 2, 3, 4, 7, 16, 1000, api.MaxLimit}[i%8]}
		x.ahead = l.ahead(min(x.limit, 20))
		for range 2 + i%5 {
			x.asks = append(x.asks, l.moves(60, 25+i%60))
		}
		p, calls, o, now := x.asTwin(t, plays.Drawn(l.from.IntN, 900, len(x.asks), 1+i%9))
		if len(p.Cut) != 0 || len(calls) != 60*len(x.asks) {
			t.Fatalf("by %v: cut %v, %d calls", plays.Order(p.Trace), p.Cut, len(calls))
		}
		x.follows(t, p, o, calls)
		met.add(now)
	}
	met.all(t)
}

// all ends in an error, unless each kind of meeting was had.
func (m meetings) all(t *testing.T) {
	t.Helper()
	if m.round == 0 || m.again == 0 || m.overtaken == 0 || m.unchanged == 0 || m.higher == 0 || m.highest == 0 || m.reached == 0 || m.torn == 0 {
		t.Errorf("%+v", m)
	}
}

// allOfOne ends in an error, unless each kind of meeting was had that there is about one word.
func (m meetings) allOfOne(t *testing.T) {
	t.Helper()
	if m.round == 0 || m.again == 0 || m.overtaken == 0 || m.unchanged == 0 {
		t.Errorf("%+v", m)
	}
}

// TestP146PlaysThatAreCutOff: of a gauge at the end of a play in which threads are cut off is told what the twin tells; never more are in than may be.
func TestP146PlaysThatAreCutOff(t *testing.T) {
	l := lister{rand.New(rand.NewPCG(14, 3))}
	for i := range 12 {
		x := roomPlay{limit: uint64(1 + i)}
		for range 2 + i%15 {
			x.asks = append(x.asks, l.moves(20000/(2+i%15), 40+i))
		}
		p, _, o, _ := x.asTwin(t, plays.Drawn(l.from.IntN, api.MaxTurns/2, len(x.asks), 1+i%5)[:api.MaxTurns/2])
		if n := get.of(o, nil); len(p.Cut) == 0 || len(p.Trace) != api.MaxTurns || n.in > x.limit || n.peak != x.limit {
			t.Errorf("%d: cut %v behind %d turns, %v", x.limit, p.Cut, len(p.Trace), n)
		}
	}
}

// queries answers so many calls of a breaker with that wait, at ticks that go on and back again.
func (l lister) queries(calls int, wait uint64) []query {
	now := l.from.Uint64N(wait + 1)
	var list []query
	for range calls {
		switch k := l.from.IntN(40); {
		case k == 0:
			list = append(list, query{l.from.IntN(2), api.MaxTick + 1 + now, l.from.IntN(2) == 0})
		case k < 4:
			list = append(list, look())
		case k < 20:
			list = append(list, ask(now))
		case k < 27:
			list = append(list, good(now))
		default:
			list = append(list, bad(now))
		}
		if step := l.from.Uint64N(wait + 1); l.from.IntN(4) > 0 {
			now = min(now+step, api.MaxTick)
		} else {
			now -= min(now, step)
		}
	}
	return list
}

// asTwin plays threads by that order, and holds what they are answered against the twin; it answers the play and the calls, the breaker, and what the twin's calls met.
func (x switchPlay) asTwin(t *testing.T, order []int) (api.Played, []doneSwitcher, *gauge.Breaker, meetings) {
	t.Helper()
	b, w := x.start.breaker(t), x.start.twin()
	p, calls := plays.AsTwin(t, order, x.asks, switcherIs(b), switcherIs(w))
	return p, calls, b, w.met
}

func TestP146LongPlaysOfBreakers(t *testing.T) {
	l := lister{rand.New(rand.NewPCG(14, 5))}
	var met meetings
	for i := range 600 {
		x := switchPlay{start: of([]uint64{1, 2, 3, 5, 9}[i%5], []uint64{1, 2, 7, 30, 1 << 30, api.MaxTick / 4}[i%6])}
		for range i % 3 * int(x.start.fails) {
			x.start.ahead = append(x.start.ahead, bad(uint64(i%11)))
		}
		for range 2 + i%5 {
			x.asks = append(x.asks, l.queries(60, x.start.wait))
		}
		p, calls, b, now := x.asTwin(t, plays.Drawn(l.from.IntN, 500, len(x.asks), 1+i%7))
		if len(p.Cut) != 0 || len(calls) != 60*len(x.asks) {
			t.Fatalf("by %v: cut %v, %d calls", plays.Order(p.Trace), p.Cut, len(calls))
		}
		x.follows(t, p, b, calls)
		met.add(now)
	}
	met.allOfOne(t)
}

// TestP146PlaysOfBreakersThatAreCutOff: what was told till then is told as the twin tells it.
func TestP146PlaysOfBreakersThatAreCutOff(t *testing.T) {
	l := lister{rand.New(rand.NewPCG(14, 6))}
	for i := range 8 {
		x := switchPlay{start: of(uint64(1+i%4), uint64(1+5*i))}
		for range 2 + i%15 {
			x.asks = append(x.asks, l.queries(24000/(2+i%15), x.start.wait))
		}
		p, _, _, _ := x.asTwin(t, plays.Drawn(l.from.IntN, api.MaxTurns/2, len(x.asks), 1+i%5)[:api.MaxTurns/2])
		if len(p.Cut) == 0 || len(p.Trace) != api.MaxTurns {
			t.Errorf("cut %v behind %d turns", p.Cut, len(p.Trace))
		}
	}
}
