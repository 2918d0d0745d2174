package meter_test

import (
	"math/rand/v2"
	"slices"
	"testing"

	"patchbay/api"
	"patchbay/bucket"
	"patchbay/meter"
	"patchbay/plays"
)

// passed answers what these Takes let through, each a tick and how many tokens.
func passed(takes []ask) [][2]uint64 {
	var list [][2]uint64
	for _, a := range takes {
		list = append(list, [2]uint64{a.now, a.n})
	}
	return list
}

// neverMore ends in an error, if in any stretch of ticks more than Most says was let through, that being all.
func neverMore(t *testing.T, name string, b api.Bucket, takes ...ask) {
	t.Helper()
	if place, e := bucket.Fits(b, passed(takes)...); place != len(takes) || e != api.OK {
		t.Errorf("%s: %v let through %v: of the first %d too much, %v", name, b, takes, place+1, e)
	}
}

// through answers the Takes that said true.
func through(calls []done) []ask {
	var list []ask
	for _, d := range calls {
		if d.Ask.call == doTake && d.Answer.let {
			list = append(list, d.Ask)
		}
	}
	return list
}

// byEnds answers the calls that did operations, in the order of those by which they ended.
func byEnds(calls []done) []done {
	calls = slices.DeleteFunc(slices.Clone(calls), func(d done) bool { return d.To == 0 })
	slices.SortFunc(calls, func(a, b done) int { return a.To - b.To })
	return calls
}

// behind answers what a call answers at that state, and the state behind it.
func (a ask) behind(t *testing.T, b api.Bucket, s uint64) (answer, uint64) {
	t.Helper()
	switch a.call {
	case doTake:
		next, ok := stateBehind(t, b, s, a)
		return let(ok), next
	case doLevel:
		n, e := bucket.Level(b, s, a.now)
		return answer{v: n, e: e}, s
	}
	return number(s), s
}

// change is the operation by which a Take of a thread changed the state.
type change struct{ thread, at int }

// oneByOne ends in an error, unless the calls of a play answer what they answer one behind the other; it answers the changes of the state, and how that is at the end.
func (x play) oneByOne(t *testing.T, calls []done) ([]change, uint64) {
	t.Helper()
	s, _ := stateBehind(t, x.bucket, 0, x.ahead...)
	var changes []change
	for _, d := range byEnds(calls) {
		want, next := d.Ask.behind(t, x.bucket, s)
		if d.Answer != want || next < s {
			t.Errorf("%v: at the state %d: %v, and the state %d", d, s, want, next)
		}
		if next != s {
			changes = append(changes, change{d.Thread, d.To})
		}
		s = next
	}
	return changes, s
}

// goesRound ends in an error, if a call has more operations than it may, with these changes of the state.
func goesRound(t *testing.T, p api.Played, d done, changes []change) {
	t.Helper()
	most, ops := 1, 0
	if d.Ask.call == doTake {
		most = 2
		for _, c := range changes {
			if c.thread != d.Thread && c.at > d.From && c.at < d.To {
				most += 2
			}
		}
	}
	for _, x := range p.Trace[max(d.From-1, 0):d.To] {
		if x.Thread == d.Thread {
			ops++
		}
	}
	if ops > most {
		t.Errorf("%v: %d operations, not %d at most", d, ops, most)
	}
}

// follows holds a play of a meter, which nobody uses any more, against the words of P13.3 to P13.5.
func (x play) follows(t *testing.T, p api.Played, m *meter.Meter, calls []done) {
	t.Helper()
	neverMore(t, "a play", x.bucket, append(slices.Clone(x.ahead), through(calls)...)...)
	changes, s := x.oneByOne(t, calls)
	is(t, "at the end", m, nil, state(), number(s))
	for _, d := range calls {
		goesRound(t, p, d, changes)
		// What is refused does nothing.
		if late := d.Ask.call != doState && d.Ask.now > api.MaxTick; late != (d.To == 0) || late && d.Answer != refused(api.ErrRange) {
			t.Errorf("%v", d)
		}
	}
	if t.Failed() {
		t.Fatalf("by %v", plays.Order(p.Trace)) // one play that is told is enough
	}
}

// lister makes lists of calls, always the same ones: it is no chance.
type lister struct{ from *rand.Rand }

// asks answers so many calls of a meter by that bucket, at ticks that go on and back again.
func (l lister) asks(calls int, b api.Bucket) []ask {
	span := b.Den*b.Burst/b.Num + 2
	now := l.from.Uint64N(span)
	var list []ask
	for range calls {
		switch k := l.from.IntN(12); {
		case k == 0:
			list = append(list, level(now))
		case k == 1:
			list = append(list, state())
		case k == 2 && l.from.IntN(9) == 0:
			list = append(list, take(api.MaxTick+1+now, 1))
		case k < 5:
			list = append(list, take(now, l.from.Uint64N(b.Burst+2)))
		default:
			list = append(list, take(now, l.from.Uint64N(b.Burst/8+2)))
		}
		if step := l.from.Uint64N(span)/4 + 1; l.from.IntN(3) > 0 {
			now = min(now+step, api.MaxTick)
		} else {
			now -= min(now, 2*step)
		}
	}
	return list
}

// threads answers so many threads with as many calls each.
func (l lister) threads(threads, calls int, b api.Bucket) [][]ask {
	var list [][]ask
	for range threads {
		list = append(list, l.asks(calls, b))
	}
	return list
}

// asTwin plays threads by that order, and holds what they are answered against the twin and against the words of P13.3 to P13.5; it answers the play and the calls, and what the twin's calls met.
func (x play) asTwin(t *testing.T, order []int) (api.Played, []done, meetings) {
	t.Helper()
	m, w := made(t, x.bucket, x.ahead...), twinOf(t, x.bucket, x.ahead...)
	p, calls := plays.AsTwin(t, order, x.asks, asIs(m), asIs(w))
	x.follows(t, p, m, calls)
	return p, calls, w.met
}

func TestP134LongPlays(t *testing.T) {
	l := lister{rand.New(rand.NewPCG(13, 4))}
	var met meetings
	for i := range 400 {
		b := buckets()[i%len(buckets())]
		x := play{bucket: b, asks: l.threads(2+i%5, 60, b)}
		for _, a := range l.asks(i%3, b) {
			if a.call == doTake && a.now <= api.MaxTick && a.n <= b.Burst/4 && a.n > 0 {
				x.ahead = one(a)
			}
		}
		p, calls, now := x.asTwin(t, plays.Drawn(l.from.IntN, 1000, len(x.asks), 1+i%9))
		met.add(now)
		all := 60 * len(x.asks)
		if n := len(through(calls)); len(p.Cut) != 0 || len(calls) != all || n < all/40 || n > all*39/40 {
			t.Errorf("%v: cut %v, %d of %d calls, %d let through", b, p.Cut, len(calls), all, n)
		}
	}
	if met.round == 0 || met.again == 0 || met.overtaken == 0 || met.unchanged == 0 {
		t.Errorf("%+v", met)
	}
}

// TestP133PlaysThatAreCutOff: of what is let through in plays in which threads are cut off no stretch is too full, and nothing is taken beside.
func TestP133PlaysThatAreCutOff(t *testing.T) {
	l := lister{rand.New(rand.NewPCG(13, 3))}
	for i := range 12 {
		b := []api.Bucket{slow(), of(1, 60000, 9), of(7, 3, 5)}[i%3]
		calls := 20000 / (2 + i%15)
		x := play{bucket: b, asks: l.threads(2+i%15, calls, b)}
		// Some thousand tokens flow in, and nobody asks for none: Fits is not handed more than it may be.
		for _, asks := range x.asks {
			for j := range asks {
				now := uint64(1500*j/calls) * b.Den / b.Num
				asks[j].now, asks[j].n = now-min(now, l.from.Uint64N(3*b.Den)), max(asks[j].n, 1)
			}
		}
		p, ended, _ := x.asTwin(t, plays.Drawn(l.from.IntN, api.MaxTurns/2, len(x.asks), 1+i%5)[:api.MaxTurns/2])
		if n := len(through(ended)); len(p.Cut) == 0 || len(p.Trace) != api.MaxTurns || n < 400 {
			t.Errorf("%v: cut %v behind %d turns, %d let through", b, p.Cut, len(p.Trace), n)
		}
	}
}

// TestP133AllAreCutOff: threads that were let through to their compare and swap, and not further, have taken nothing.
func TestP133AllAreCutOff(t *testing.T) {
	m := made(t, slow())
	idle := slices.Repeat([]int{0}, api.MaxTurns-api.MaxThreads+1)
	asks := [][]ask{repeated(level(0), 2*api.MaxTurns)}
	for k := 1; k < api.MaxThreads; k++ {
		asks = append(asks, one(take(0, 1)))
		idle = append(idle, k)
	}
	p, calls, e := plays.Asked(idle, asks, asIs(m).Of)
	if e != api.OK || len(p.Cut) != api.MaxThreads || len(p.Trace) != api.MaxTurns || len(through(calls)) != 0 {
		t.Errorf("%v: cut %v behind %d turns, %v let through", e, p.Cut, len(p.Trace), through(calls))
	}
	is(t, "behind them", m, nil, state(), number(0))
	is(t, "behind them", m, nil, take(0, 3), let(true))
}
