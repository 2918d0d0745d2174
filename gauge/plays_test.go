package gauge_test

import (
	"slices"
	"testing"

	"patchbay/api"
	"patchbay/gauge"
	"patchbay/plays"
)

func TestP142ByAllOrders(t *testing.T) {
	in := func(n int) []move { return repeated(n, enter) }
	met := roomsByAllOrders(t,
		roomPlay{api.MaxTurns, 1, nil, threads(2, enter)},
		roomPlay{api.MaxTurns, 2, nil, threads(2, enter)},
		roomPlay{api.MaxTurns, 1, nil, threads(2, enter, leave)},
		roomPlay{api.MaxTurns, 2, in(1), threads(2, leave, enter)},
		roomPlay{api.MaxTurns, 2, in(1), threads(2, enter, leave)},
		roomPlay{api.MaxTurns, 1, nil, threads(3, enter)},
		roomPlay{api.MaxTurns, 9, in(2), threads(3, leave)},
		roomPlay{api.MaxTurns, 3, moves(enter, enter, enter, leave, leave), [][]move{moves(enter), moves(leave), moves(get)}},
		roomPlay{9, 3, nil, threads(3, enter)},
		roomPlay{9, 2, in(1), [][]move{moves(enter), moves(leave), moves(enter)}},
		roomPlay{9, 2, nil, [][]move{moves(enter, leave), moves(enter, get), moves(leave, enter)}},
		roomPlay{8, 4, in(2), [][]move{moves(leave, enter), moves(enter), moves(leave, leave)}},
		roomPlay{7, 3, in(1), [][]move{moves(enter), moves(enter), moves(leave), moves(enter)}},
		roomPlay{8, api.MaxLimit, nil, [][]move{moves(enter, get), moves(enter, leave), moves(enter)}},
	)
	// The third one has to be overtaken at the peak by both of the others, each one by one.
	met.add(peakOvertaken(t, 3))
	met.all(t)
}

// peakOvertaken plays so many threads that enter: the last one is about to raise the peak each time that another one does; it answers what the twin's calls met.
func peakOvertaken(t *testing.T, n int) meetings {
	t.Helper()
	x := roomPlay{limit: uint64(n), asks: threads(n, enter)}
	last := n - 1
	var order []int
	for k := range n {
		order = append(order, k, k)
	}
	order = append(order, last)
	for k := range last {
		order = append(order, k, k, last, last)
	}
	p, calls, o, met := x.asTwin(t, order)
	x.follows(t, p, o, calls)
	// Each has four, and the last one goes round at the peak for each of the others.
	if len(p.Trace) != 4*n+2*last {
		t.Errorf("%d threads: %d operations", n, len(p.Trace))
	}
	is(t, "at the end", o, nil, get, counts(uint64(n), uint64(n)))
	return met
}

func TestP142APeakThatIsOvertaken(t *testing.T) {
	for n := 2; n <= api.MaxThreads; n++ {
		peakOvertaken(t, n)
	}
}

// TestP142APeakThatIsReached: the first one who enters finds, when his compare and swap does not swap, that the peak is above what he saw.
func TestP142APeakThatIsReached(t *testing.T) {
	for n := 2; n <= api.MaxThreads; n++ {
		x := roomPlay{limit: uint64(n), asks: threads(n, enter)}
		order := []int{0, 0, 0}
		for k := 1; k < n; k++ {
			order = append(order, k, k, k, k)
		}
		p, calls, o, _ := x.asTwin(t, order)
		x.follows(t, p, o, calls)
		if marks := p.Trace[len(p.Trace)-2:]; len(p.Trace) != 4*n+1 || marks[0] != (api.Turned{Mark: cas(1)}) || marks[1] != (api.Turned{Mark: load(1)}) {
			t.Errorf("%d threads: %v", n, p.Trace)
		}
	}
}

// TestP142AnEnterThatIsOvertaken goes round each time, and ends at last; so does a Leave.
func TestP142AnEnterThatIsOvertaken(t *testing.T) {
	for _, others := range []int{0, 1, 2, 3, 10, 63, 64, 65, 255, 256, 257, 1000, api.MaxTurns / 7} {
		for _, room := range []int{0, 1} {
			if others+room == 0 {
				continue // there is no such gauge
			}
			o := made(t, uint64(others+room))
			order := []int{0}
			for range others {
				order = append(order, 1, 1, 1, 1, 0, 0)
			}
			p, calls, e := plays.Asked(order, [][]move{moves(enter), repeated(others, enter)}, roomIs(o).Of)
			want := 4*others + 2*others + 1 + 3*room
			if last := calls[len(calls)-1]; e != api.OK || len(p.Trace) != want || last.Thread != 0 || last.Answer.ok != (room == 1) {
				t.Errorf("%d others: %v, %d operations, not %d; %v", others, e, len(p.Trace), want, last)
			}
			is(t, "behind them", o, nil, get, counts(uint64(others+room), uint64(others+room)))
		}
	}
}

func TestP142ALeaveThatIsOvertaken(t *testing.T) {
	for _, others := range []int{0, 1, 2, 3, 10, 63, 64, 65, 255, 256, 257, 1000, api.MaxTurns / 5} {
		for _, stay := range []int{0, 1} {
			if others+stay == 0 {
				continue // nobody is in whom it could see
			}
			o := made(t, api.MaxLimit, repeated(others+stay, enter)...)
			order := []int{0}
			for range others {
				order = append(order, 1, 1, 0, 0)
			}
			p, calls, e := plays.Asked(order, [][]move{moves(leave), repeated(others, leave)}, roomIs(o).Of)
			answer := []came{not(api.ErrState), left()}[stay]
			if last := calls[len(calls)-1]; e != api.OK || len(p.Trace) != 4*others+1+stay || last.Thread != 0 || last.Answer != answer {
				t.Errorf("%d others: %v, %d operations, %v", others, e, len(p.Trace), last)
			}
			is(t, "behind them", o, nil, get, counts(0, uint64(others+stay)))
		}
	}
}

// TestP146NeverMoreIn: looked at between any two operations; the peak never falls, and is never above the most that were in.
func TestP146NeverMoreIn(t *testing.T) {
	for _, x := range []roomPlay{
		{9, 1, nil, [][]move{moves(enter, leave), moves(enter, leave), moves(enter)}},
		{9, 2, moves(enter), [][]move{moves(enter, enter), moves(leave, leave), moves(enter)}},
		{9, 2, nil, [][]move{moves(enter, leave), moves(leave, enter), moves(enter)}},
	} {
		var o *gauge.Gauge
		var last, most uint64
		for p := range plays.Whole(t, x.turns, func() []func(g api.Gate) {
			o, last, most = made(t, x.limit, x.ahead...), 0, 0
			var bodies []func(g api.Gate)
			for _, list := range x.asks {
				bodies = append(bodies, func(g api.Gate) {
					for _, m := range list {
						m.of(o, g)
					}
				})
			}
			return plays.Watched(func() {
				now := get.of(o, nil)
				most = max(most, now.in)
				if now.e != api.OK || now.in > x.limit || now.peak < last || now.peak > most {
					t.Errorf("%v, behind a peak of %d and at most %d", now, last, most)
				}
				last = now.peak
			}, bodies...)
		}) {
			if now := get.of(o, nil); now.peak != most || t.Failed() {
				t.Fatalf("by %v: %v, when at most %d were in", plays.Order(p.Trace), now, most)
			}
		}
	}
}

func TestP142ExamplesByOrders(t *testing.T) {
	l, c, lp, cp := load(0), cas(0), load(1), cas(1)
	for _, x := range []struct {
		name   string
		limit  uint64
		ahead  []move
		play   plays.Example[move, came]
		behind came
	}{
		{"two that see the last place", 1, nil, plays.Example[move, came]{
			Order: []int{0, 1, 0, 1}, Asks: threads(2, enter), Want: []came{let(), full()},
			Threads: []int{0, 1, 0, 1, 0, 1, 0}, Marks: []api.Mark{l, l, c, c, lp, l, cp},
		}, counts(1, 1)},
		{"one that goes round, and enters then", 2, nil, plays.Example[move, came]{
			Order: []int{0, 1, 0, 1, 0, 0, 1, 1, 1}, Asks: threads(2, enter), Want: []came{let(), let()},
			Threads: []int{0, 1, 0, 1, 0, 0, 1, 1, 1, 1}, Marks: []api.Mark{l, l, c, c, lp, cp, l, c, lp, cp},
		}, counts(2, 2)},
		{"the peak of the second one comes ahead of the first one's", 2, nil, plays.Example[move, came]{
			Order: []int{0, 0, 1, 1, 1, 1, 0}, Asks: threads(2, enter), Want: []came{let(), let()},
			Threads: []int{0, 0, 1, 1, 1, 1, 0}, Marks: []api.Mark{l, c, l, c, lp, cp, lp},
		}, counts(2, 2)},
		{"one that leaves, and one that enters, see the same", 2, moves(enter), plays.Example[move, came]{
			Order: []int{0, 1, 0, 1}, Asks: [][]move{moves(leave), moves(enter)}, Want: []came{left(), let()},
			Threads: []int{0, 1, 0, 1, 1, 1, 1}, Marks: []api.Mark{l, l, c, c, l, c, lp},
		}, counts(1, 1)},
		{"one behind which there are as many as ahead of it", 2, moves(enter), plays.Example[move, came]{
			Order: []int{0, 1, 1, 1, 1, 1, 1, 0}, Asks: [][]move{moves(leave), moves(enter, leave)}, Want: []came{left(), left()},
			Threads: []int{0, 1, 1, 1, 1, 1, 1, 0}, Marks: []api.Mark{l, l, c, lp, cp, l, c, c},
		}, counts(0, 2)},
		{"two leave, and one was in", 2, moves(enter), plays.Example[move, came]{
			Order: []int{0, 1, 0, 1}, Asks: threads(2, leave), Want: []came{left(), not(api.ErrState)},
			Threads: []int{0, 1, 0, 1, 1}, Marks: []api.Mark{l, l, c, c, l},
		}, counts(0, 1)},
		{"who is told that it is full is so, though one leaves", 1, moves(enter), plays.Example[move, came]{
			Order: []int{0, 1, 1}, Asks: [][]move{moves(enter), moves(leave)}, Want: []came{full(), left()},
			Threads: []int{0, 1, 1}, Marks: []api.Mark{l, l, c},
		}, counts(0, 1)},
		{"a Get when one is in of whom the peak does not know yet", 1, nil, plays.Example[move, came]{
			Order: []int{0, 0, 1, 1, 0}, Asks: [][]move{moves(enter), moves(get)}, Want: []came{let(), counts(1, 0)},
			Threads: []int{0, 0, 1, 1, 0, 0}, Marks: []api.Mark{l, c, l, lp, lp, cp},
		}, counts(1, 1)},
		{"a Get between whose Loads one enters", 1, nil, plays.Example[move, came]{
			Order: []int{1, 0, 0, 0, 0, 1}, Asks: [][]move{moves(enter), moves(get)}, Want: []came{let(), counts(0, 1)},
			Threads: []int{1, 0, 0, 0, 0, 1}, Marks: []api.Mark{l, l, c, lp, cp, lp},
		}, counts(1, 1)},
	} {
		o := made(t, x.limit, x.ahead...)
		plays.AsTold(t, x.name, roomIs(o), x.play)
		is(t, x.name, o, nil, get, x.behind)
	}
}

// TestP146WhatIsCutOff: who is cut off behind his compare and swap is in; behind it, and not ahead of it.
func TestP146WhatIsCutOff(t *testing.T) {
	for ops := range 6 {
		o := made(t, 2)
		cut := plays.CutOff(ops, func(g api.Gate) { o.Enter(g) })
		if cut != (ops < 4) {
			t.Errorf("an Enter behind %d operations is cut off: %v", ops, cut)
		}
		in, peak := uint64(min(ops, 2)/2), uint64(min(ops, 4)/4)
		is(t, "behind it", o, nil, get, counts(in, peak))
		if cut := plays.CutOff(ops, func(g api.Gate) { o.Get(g) }); cut != (ops < 2) {
			t.Errorf("a Get behind %d operations is cut off: %v", ops, cut)
		}
		o = made(t, 2, enter, enter)
		if cut := plays.CutOff(ops, func(g api.Gate) { o.Leave(g) }); cut != (ops < 2) {
			t.Errorf("a Leave behind %d operations is cut off: %v", ops, cut)
		}
		is(t, "behind it", o, nil, get, counts(2-in, 2))
	}
}

func TestP145ByAllOrders(t *testing.T) {
	open := func(fails int) []query { return again(fails, bad(0)) }
	trying := func(fails int) []query { return append(open(fails), ask(10)) }
	late := api.MaxTick + uint64(1)
	met := switchersByAllOrders(t,
		switchPlay{api.MaxTurns, of(2, 10), askers(2, bad(1))},
		switchPlay{api.MaxTurns, of(3, 10), askers(3, bad(1))},
		switchPlay{api.MaxTurns, of(2, 10), [][]query{queries(bad(1)), queries(bad(2)), queries(good(3))}},
		switchPlay{api.MaxTurns, of(1, 10), [][]query{queries(bad(1)), queries(bad(2)), queries(ask(12))}},
		switchPlay{api.MaxTurns, of(2, 10, open(2)...), askers(3, ask(10))},
		switchPlay{api.MaxTurns, of(2, 10, open(2)...), [][]query{queries(ask(10)), queries(ask(11)), queries(ask(9))}},
		switchPlay{api.MaxTurns, of(2, 10, open(2)...), [][]query{queries(ask(10)), queries(ask(20)), queries(ask(30))}},
		switchPlay{api.MaxTurns, of(2, 10, open(2)...), [][]query{queries(ask(10), good(11)), queries(ask(12), bad(13))}},
		switchPlay{api.MaxTurns, of(2, 10, trying(2)...), [][]query{queries(good(11)), queries(bad(12)), queries(ask(20))}},
		switchPlay{api.MaxTurns, of(2, 10, trying(2)...), [][]query{queries(bad(11)), queries(bad(12)), queries(ask(22))}},
		switchPlay{api.MaxTurns, of(1, 10, trying(1)...), [][]query{queries(good(11)), queries(bad(10)), queries(look(), look())}},
		switchPlay{api.MaxTurns, of(2, 10), [][]query{queries(ask(late), bad(1)), queries(bad(late), good(2)), queries(good(late), ask(3))}},
		switchPlay{9, of(2, 3), [][]query{queries(bad(1), ask(5), good(6)), queries(bad(2), ask(5), bad(6)), queries(ask(5), look())}},
		switchPlay{8, of(3, 2, bad(0)), [][]query{queries(bad(1), bad(2)), queries(good(1)), queries(bad(3), ask(6)), queries(ask(4), ask(8))}},
		switchPlay{9, of(2, 2, bad(0)), [][]query{queries(bad(1)), queries(good(1), bad(2)), queries(ask(4), good(5))}},
	)
	met.allOfOne(t)
}

// TestP145OfTheGreatestNumbersByAllOrders: of the greatest breakers, at the last ticks.
func TestP145OfTheGreatestNumbersByAllOrders(t *testing.T) {
	const end = api.MaxTick
	fails := again(api.MaxLimit-1, bad(7))
	for _, x := range []switchPlay{
		{api.MaxTurns, of(1, end), [][]query{queries(bad(0), ask(end)), queries(ask(end), bad(end))}},
		{api.MaxTurns, of(1, end, bad(0)), [][]query{queries(ask(end)), queries(ask(end-1), look()), queries(ask(end))}},
		{api.MaxTurns, of(1, 1, bad(end-1)), [][]query{queries(ask(end), bad(end)), queries(ask(end), good(0))}},
		{api.MaxTurns, of(2, end, bad(1), bad(0), ask(end)), [][]query{queries(bad(end), look()), queries(bad(end - 1)), queries(ask(end))}},
	} {
		switchersByAllOrders(t, x)
	}
	// Two, so that there are not a million Tells ahead of each of many plays.
	for _, order := range [][]int{{0, 1, 0, 1}, {1, 1, 0, 0}} {
		x := switchPlay{start: of(api.MaxLimit, end, fails...), asks: [][]query{queries(bad(end)), queries(bad(0), look(), ask(end))}}
		p, calls, b, _ := x.asTwin(t, order)
		x.follows(t, p, b, calls)
	}
}

func TestP145ExamplesByOrders(t *testing.T) {
	l, c := load(0), cas(0)
	open := again(2, bad(6))
	for _, x := range []struct {
		name   string
		ahead  []query
		play   plays.Example[query, said]
		behind said
	}{
		{"two that find it due", open, plays.Example[query, said]{
			Order: []int{0, 1, 0, 1}, Asks: askers(2, ask(16)), Want: []said{may(true), may(false)},
			Threads: []int{0, 1, 0, 1, 1}, Marks: []api.Mark{l, l, c, c, l},
		}, stands(gauge.Trying, 2, 16)},
		{"two that find it due, so far from one another that both try", open, plays.Example[query, said]{
			Order: []int{0, 1, 0, 1}, Asks: [][]query{queries(ask(16)), queries(ask(26))}, Want: []said{may(true), may(true)},
			Threads: []int{0, 1, 0, 1, 1, 1}, Marks: []api.Mark{l, l, c, c, l, c},
		}, stands(gauge.Trying, 2, 26)},
		{"one that finds it due, and then closed", append(open, ask(16)), plays.Example[query, said]{
			Order: []int{0, 1, 1, 0}, Asks: [][]query{queries(ask(26)), queries(good(25))}, Want: []said{may(true), heard()},
			Threads: []int{0, 1, 1, 0, 0}, Marks: []api.Mark{l, l, c, c, l},
		}, stands(gauge.Closed, 0, 0)},
		{"two fails, each the first one that it saw", nil, plays.Example[query, said]{
			Order: []int{0, 1, 0, 1}, Asks: [][]query{queries(bad(3)), queries(bad(4))}, Want: []said{heard(), heard()},
			Threads: []int{0, 1, 0, 1, 1, 1}, Marks: []api.Mark{l, l, c, c, l, c},
		}, stands(gauge.Open, 2, 4)},
		{"a fail that finds it open when it goes round", again(1, bad(6)), plays.Example[query, said]{
			Order: []int{0, 1, 1, 0}, Asks: [][]query{queries(bad(8)), queries(bad(7))}, Want: []said{heard(), heard()},
			Threads: []int{0, 1, 1, 0, 0}, Marks: []api.Mark{l, l, c, c, l},
		}, stands(gauge.Open, 2, 7)},
		{"two that tell of one who tried: the first one counts", append(open, ask(16)), plays.Example[query, said]{
			Order: []int{0, 1, 1, 0}, Asks: [][]query{queries(good(18)), queries(bad(17))}, Want: []said{heard(), heard()},
			Threads: []int{0, 1, 1, 0, 0}, Marks: []api.Mark{l, l, c, c, l},
		}, stands(gauge.Open, 2, 17)},
		{"a fail behind one that closed it", append(open, ask(16)), plays.Example[query, said]{
			Order: []int{0, 1, 1, 0}, Asks: [][]query{queries(bad(18)), queries(good(17))}, Want: []said{heard(), heard()},
			Threads: []int{0, 1, 1, 0, 0, 0}, Marks: []api.Mark{l, l, c, c, l, c},
		}, stands(gauge.Closed, 1, 0)},
		{"one behind which it is what it was", again(1, bad(6)), plays.Example[query, said]{
			Order: []int{0, 1, 1, 1, 1, 0}, Asks: [][]query{queries(bad(9)), queries(good(7), bad(8))}, Want: []said{heard(), heard()},
			Threads: []int{0, 1, 1, 1, 1, 0}, Marks: []api.Mark{l, l, c, l, c, c},
		}, stands(gauge.Open, 2, 9)},
		{"who is told that he may not ask is so, though it closes", append(open, ask(16)), plays.Example[query, said]{
			Order: []int{0, 1, 1}, Asks: [][]query{queries(ask(17)), queries(good(17))}, Want: []said{may(false), heard()},
			Threads: []int{0, 1, 1}, Marks: []api.Mark{l, l, c},
		}, stands(gauge.Closed, 0, 0)},
	} {
		b := of(2, 10, x.ahead...).breaker(t)
		plays.AsTold(t, x.name, switcherIs(b), x.play)
		says(t, x.name, b, nil, look(), x.behind)
	}
}

// TestP145ATellThatIsOvertaken goes round each time, and ends at last; so does an Ask.
func TestP145ATellThatIsOvertaken(t *testing.T) {
	for _, others := range []int{1, 2, 3, 10, 63, 64, 65, 255, 256, 257, 1000, api.MaxTurns / 5} {
		b := of(uint64(others)+1, 10).breaker(t)
		order := []int{0}
		for range others {
			order = append(order, 1, 1, 0, 0)
		}
		p, _, e := plays.Asked(order, [][]query{queries(bad(5)), again(others, bad(4))}, switcherIs(b).Of)
		if want := 4*others + 2; e != api.OK || len(p.Trace) != want {
			t.Errorf("%d others: %v, %d operations, not %d", others, e, len(p.Trace), want)
		}
		says(t, "behind them", b, nil, look(), stands(gauge.Open, uint64(others)+1, 5))
	}
}

func TestP144AnAskThatIsOvertaken(t *testing.T) {
	for _, others := range []int{1, 2, 3, 10, 63, 64, 65, 255, 256, 257, 1000, api.MaxTurns / 5} {
		b := of(1, 10, bad(0)).breaker(t)
		order, list := []int{0}, []query(nil)
		for i := range others {
			order = append(order, 1, 1, 0, 0)
			list = append(list, ask(uint64(10*i+10)))
		}
		last := uint64(10*others + 10)
		p, calls, e := plays.Asked(order, [][]query{queries(ask(last)), list}, switcherIs(b).Of)
		if want := 4*others + 2; e != api.OK || len(p.Trace) != want || slices.ContainsFunc(calls, func(d doneSwitcher) bool { return !d.Answer.ok }) {
			t.Errorf("%d others: %v, %d operations, not %d; %v", others, e, len(p.Trace), want, calls)
		}
		says(t, "behind them", b, nil, look(), stands(gauge.Trying, 1, last))
	}
}

// TestP146WhatIsCutOffOfABreaker: nothing changes but by a compare and swap that swaps.
func TestP146WhatIsCutOffOfABreaker(t *testing.T) {
	for name, x := range map[string]struct {
		start start
		q     query
		ops   int
		want  said
	}{
		"an Ask that tries":    {of(1, 10, bad(0)), ask(10), 2, stands(gauge.Trying, 1, 10)},
		"an Ask of a closed":   {of(1, 10), ask(10), 1, stands(gauge.Closed, 0, 0)},
		"a fail":               {of(2, 10), bad(3), 2, stands(gauge.Closed, 1, 0)},
		"a fail that opens":    {of(2, 10, bad(3)), bad(4), 2, stands(gauge.Open, 2, 4)},
		"a fail of who tried":  {of(1, 10, bad(0), ask(10)), bad(11), 2, stands(gauge.Open, 1, 11)},
		"one that went well":   {of(1, 10, bad(0), ask(10)), good(11), 2, stands(gauge.Closed, 0, 0)},
		"a Get":                {of(1, 10, bad(0)), look(), 1, stands(gauge.Open, 1, 0)},
		"a Tell of an open":    {of(1, 10, bad(0)), good(1), 1, stands(gauge.Open, 1, 0)},
		"one well, of no fail": {of(2, 10), good(1), 1, stands(gauge.Closed, 0, 0)},
	} {
		for ops := range 4 {
			b, want := x.start.breaker(t), x.want
			if ops < x.ops {
				want = look().of(b, nil)
			}
			if cut := plays.CutOff(ops, func(g api.Gate) { x.q.of(b, g) }); cut != (ops < x.ops) {
				t.Errorf("%s behind %d operations is cut off: %v", name, ops, cut)
			}
			says(t, name, b, nil, look(), want)
		}
	}
}
