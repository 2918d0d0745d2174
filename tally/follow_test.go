package tally_test

import (
	"math/rand/v2"
	"slices"
	"testing"

	"patchbay/api"
	"patchbay/plays"
	"patchbay/tally"
)

// addedTo answers what these calls have added, shard by shard, to a tally to which that was added ahead; only those count of which that tells.
func (x play) addedTo(calls []done, counts func(d done) bool) []uint64 {
	list := zeros(x.n)
	copy(list, x.ahead)
	for _, d := range calls {
		if d.Ask.call == doAdd && d.Answer.e == api.OK && counts(d) {
			list[d.Ask.shard] += d.Ask.n
		}
	}
	return list
}

// goesRound tells whether what is added is together more than a word holds.
func (x play) goesRound() bool {
	left := uint64(top)
	takes := func(n uint64) bool {
		if n > left {
			return true
		}
		left -= n
		return false
	}
	return slices.ContainsFunc(x.ahead, takes) || slices.ContainsFunc(slices.Concat(x.asks...), func(a ask) bool { return takes(a.n) })
}

// total answers the sum of a list.
func total(list []uint64) uint64 {
	var all uint64
	for _, n := range list {
		all += n
	}
	return all
}

// within tells whether each of the numbers is from least to most.
func within(list, least, most []uint64) bool {
	for i, v := range list {
		if v < least[i] || v > most[i] {
			return false
		}
	}
	return len(list) == len(least)
}

// follows holds a play of a tally, which nobody uses any more, against the words of P11.4.
func (x play) follows(t *testing.T, p api.Played, o *tally.Tally, calls []done) {
	t.Helper()
	holds(t, "at the end", o, x.addedTo(calls, func(done) bool { return true })...)
	if !x.goesRound() {
		for _, d := range calls {
			// An Add is one operation: what has begun and is to be found is done.
			least := x.addedTo(calls, func(a done) bool { return a.To < d.From })
			most := x.addedTo(calls, func(a done) bool { return a.From < d.To })
			fits := d.Answer.e == api.OK || d.Answer.e == api.ErrRange && d.From == 0
			switch d.Ask.call {
			case doSum:
				fits = fits && total(least) <= d.Answer.v && d.Answer.v <= total(most)
			case doParts:
				fits = fits && within(d.Answer.list, least, most)
			}
			if !fits {
				t.Errorf("by %v: %v, when there was ahead of it %v, and at its end %v", plays.Order(p.Trace), d, least, most)
			}
		}
	}
	if t.Failed() {
		t.FailNow() // one play that is told is enough
	}
}

// numbers answers those that came ahead and by these calls, of which that tells.
func (x histPlay) numbers(calls []doneHist, counts func(d doneHist) bool) []uint64 {
	list := slices.Clone(x.ahead)
	for _, d := range calls {
		if !d.Ask.get && counts(d) {
			list = append(list, d.Ask.v)
		}
	}
	return list
}

// follows holds a play of a Hist, which nobody uses any more, against the words of P11.4: histograms of parts of what came, joined in any order, are that of all.
func (x histPlay) follows(t *testing.T, p api.Played, o *tally.Hist, calls []doneHist) {
	t.Helper()
	all := func(doneHist) bool { return true }
	even := func(d doneHist) bool { return d.Thread%2 == 0 }
	odd := func(d doneHist) bool { return d.Thread%2 == 1 }
	has(t, "at the end", o, x.numbers(calls, all)...)
	h, _ := o.Get(nil)
	joinIs(t, h, histOf(x.numbers(calls, even)...), histOf(histPlay{}.numbers(calls, odd)...))
	for _, d := range calls {
		if d.Answer.e != api.OK || !d.Ask.get && d.Answer != (told{}) {
			t.Errorf("by %v: %v", plays.Order(p.Trace), d)
		}
		if !d.Ask.get {
			continue
		}
		least := histOf(x.numbers(calls, func(a doneHist) bool { return a.To < d.From })...)
		most := histOf(x.numbers(calls, func(a doneHist) bool { return a.From < d.To })...)
		// A number that is under way may be counted already.
		if got := d.Answer.hist; !within(got.Counts[:], least.Counts[:], most.Counts[:]) || got.Max < least.Max || got.Max > h.Max {
			t.Errorf("by %v: %v, when there came ahead of it %v, and till its end %v", plays.Order(p.Trace), d, least, most)
		}
	}
	if t.Failed() {
		t.FailNow() // one play that is told is enough
	}
}

// lister makes lists of calls, always the same ones: it is no chance.
type lister struct{ from *rand.Rand }

// asks answers so many calls of a tally of so many shards.
func (l lister) asks(calls, n int, most uint64) []ask {
	var list []ask
	for range calls {
		switch k := l.from.IntN(8); {
		case k == 0:
			list = append(list, sum())
		case k == 1:
			list = append(list, parts())
		default:
			// One in some is no shard.
			list = append(list, add(l.from.IntN(n+2)-1, l.from.Uint64N(most)))
		}
	}
	return list
}

func TestP114LongPlays(t *testing.T) {
	l := lister{rand.New(rand.NewPCG(11, 4))}
	var met meetings
	for i := range 400 {
		x := play{n: 1 + i%api.MaxShards, asks: make([][]ask, 2+i%5)}
		most := []uint64{2, 1000, 1 << 40, top}[i%4]
		for range x.n {
			x.ahead = append(x.ahead, l.from.Uint64N(most))
		}
		for k := range x.asks {
			x.asks[k] = l.asks(60, x.n, most)
		}
		o, w := made(t, x.n, x.ahead...), twinOf(x.n, x.ahead...)
		p, calls := plays.AsTwin(t, plays.Drawn(l.from.IntN, 2000, len(x.asks), 1+i%24), x.asks, asIs(o), asIs(w))
		if len(p.Cut) != 0 {
			t.Fatalf("by %v: cut %v", plays.Order(p.Trace), p.Cut)
		}
		x.follows(t, p, o, calls)
		met.add(w.met)
	}
	if met.missed == 0 || met.found == 0 {
		t.Errorf("%+v", met)
	}
}

// number answers one of up to so many bits.
func (l lister) number(bits int) uint64 { return l.from.Uint64() >> (64 - bits) }

// comes answers so many calls of a Hist, of numbers of up to so many bits that rise more or less.
func (l lister) comes(calls, bits int) []come {
	var list []come
	for i := range calls {
		if l.from.IntN(20) == 0 {
			list = append(list, get())
			continue
		}
		list = append(list, comes(l.number(1+bits*i/calls))...)
	}
	return list
}

func TestP114LongPlaysOfHists(t *testing.T) {
	l := lister{rand.New(rand.NewPCG(11, 2))}
	var met meetings
	for i := range 400 {
		x := histPlay{asks: make([][]come, 2+i%5)}
		bits := 1 + i%64
		for range i % 3 {
			x.ahead = append(x.ahead, l.number(bits))
		}
		for k := range x.asks {
			x.asks[k] = l.comes(40, bits)
		}
		o, w := filled(t, x.ahead...), x.twin()
		p, calls := plays.AsTwin(t, plays.Drawn(l.from.IntN, 1500, len(x.asks), 1+i%7), x.asks, histIs(o), histIs(w))
		if len(p.Cut) != 0 {
			t.Fatalf("by %v: cut %v", plays.Order(p.Trace), p.Cut)
		}
		x.follows(t, p, o, calls)
		met.add(w.met)
	}
	if met.round == 0 || met.again == 0 || met.overtaken == 0 || met.torn == 0 {
		t.Errorf("%+v", met)
	}
}
