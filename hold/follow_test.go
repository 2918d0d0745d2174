package hold_test

import (
	"math/rand/v2"
	"slices"
	"testing"

	"patchbay/api"
	"patchbay/plays"
)

// watched is a hold that is asked in a play, and what can be seen of it between any two operations, by free calls. A slot is one thread's at a time.
type watched struct {
	t     *testing.T
	hold  *texts
	ops   int               // how many were done
	shown []answer          // what was published behind so many operations
	value map[uint64]string // of each version
	freed map[uint64]bool
	since map[int]uint64 // of each slot by which somebody is in: what was published behind its Pin
	got   map[int]uint64 // of each that was answered: what it was answered
	swaps int            // how many calls are under way that may swap
	kept  int            // how often a Free left what somebody who is in was answered, though it was swapped out
	gone  int            // how often a Free freed something while somebody was in
}

// watch answers a hold that begins so, and is watched.
func (x start) watch(t *testing.T) *watched {
	w := &watched{t: t, hold: x.hold(t), value: map[uint64]string{}, freed: map[uint64]bool{}, since: map[int]uint64{}, got: map[int]uint64{}}
	v, n := "a", uint64(1)
	w.value[n] = v
	for _, a := range x.ahead {
		switch a.call {
		case doPut:
			v, n = a.value, n+1
			w.value[n] = v
		case doEnter:
			w.since[a.slot], w.got[a.slot] = n, n
		}
	}
	for m := uint64(1); m < n; m++ {
		if _, ok := w.hold.Old(m); !ok {
			w.freed[m] = true
		}
	}
	return w
}

// watching is a gate under which a watched hold is looked at ahead of each operation of a call.
type watching struct {
	gate api.Gate
	w    *watched
	ask  ask
	last api.Mark
}

func (x *watching) Step(m api.Mark) {
	x.w.look()
	if x.ask.call == doEnter && x.last == load(0) && m == load(0) {
		// Its Pin has found the epoch as it was, and is done.
		_, n, _ := x.w.hold.Now(nil)
		x.w.since[x.ask.slot] = n
	}
	x.last = m
	x.gate.Step(m)
	x.w.ops++
}

// of asks the hold.
func (w *watched) of(a ask, g api.Gate) answer {
	swaps := a.call == doPut || a.call == doTry
	if swaps {
		w.swaps++
	}
	if a.call == doLeave {
		delete(w.since, a.slot)
		delete(w.got, a.slot)
	}
	got := a.of(w.hold, &watching{gate: g, w: w, ask: a})
	if swaps {
		w.swaps--
	}
	if a.call == doEnter && got.e == api.OK {
		w.got[a.slot] = got.version
	}
	if a.call == doFree {
		w.free(got.list)
	}
	w.look()
	return got
}

// free holds what a Free answers against the words of P10.4 to P10.6.
func (w *watched) free(list []uint64) {
	_, now, _ := w.hold.Now(nil)
	for i, n := range list {
		if w.freed[n] || n < 1 || n >= now || i > 0 && list[i-1] >= n {
			w.t.Errorf("%v are freed, when %d is published, behind %v", list, now, w.freed)
		}
		w.freed[n] = true
		for slot, m := range w.since {
			// Who has pinned and not loaded yet may still find what was published behind its Pin.
			if n >= m {
				w.t.Errorf("%d is freed, and who is in by the slot %d entered when %d was published", n, slot, m)
			}
		}
	}
	for _, m := range w.got {
		if slices.Contains(w.hold.Kept(), m) {
			w.kept++
		}
	}
	if len(list) > 0 && len(w.since) > 0 {
		w.gone++
	}
}

// look holds the hold against the words of P10.4 to P10.7.
func (w *watched) look() {
	v, now, e := w.hold.Now(nil)
	if len(w.shown) == w.ops {
		w.shown = append(w.shown, shown(v, now))
		rises := uint64(0)
		if w.ops > 0 {
			rises = now - w.shown[w.ops-1].version
		}
		if w.value[now] == "" && rises == 1 {
			w.value[now] = v
		}
		if rises > 1 {
			w.t.Errorf("behind %d operations %d is published, ahead of the last one %v", w.ops, now, w.shown[w.ops-1])
		}
	}
	if len(w.shown) != w.ops+1 || !same(w.shown[w.ops], shown(v, now)) || e != api.OK {
		w.t.Errorf("behind %d operations %q %d is published, %v; it was %v", w.ops, v, now, e, w.shown)
	}
	list := w.hold.Kept()
	inNeither := 0
	for n := range now + 2 {
		published, isKept := n == now, slices.Contains(list, n)
		v, ok := w.hold.Old(n)
		if ok != (published || isKept) || ok && v != w.value[n] || (published || isKept) && w.freed[n] {
			w.t.Errorf("Old(%d): %q, %v, when %d is published, and %v are kept; its value is %q, freed are %v", n, v, ok, now, list, w.value[n], w.freed)
		}
		if n > 0 && n < now && !ok && !w.freed[n] {
			inNeither++
		}
	}
	rising := slices.Sorted(slices.Values(list))
	if inNeither > w.swaps || !slices.Equal(list, slices.Compact(rising)) || len(list) > 0 && (list[0] < 1 || list[len(list)-1] >= now) {
		w.t.Errorf("%v are kept, when %d is published, freed are %v, and %d calls are under way that may swap", list, now, w.freed, w.swaps)
	}
}

// follows holds a play against the words of P10.2, P10.3, P10.7 and P10.8, and then the hold, which nobody uses any more, against those of P10.6.
func (w *watched) follows(p api.Played, calls []done) {
	t := w.t
	t.Helper()
	if len(w.shown) != len(p.Trace)+1 {
		t.Fatalf("by %v: %d operations, but what was published is %v", plays.Order(p.Trace), len(p.Trace), w.shown)
	}
	rose, won, seen := map[uint64]bool{}, map[uint64]bool{}, map[int]uint64{}
	for _, d := range calls {
		if !w.fits(p.Trace, d) {
			t.Errorf("by %v: %v, when there was published %v", plays.Order(p.Trace), d, w.shown)
		}
		swapped := d.Ask.call == doPut || d.Answer.ok && d.Ask.call == doTry
		if swapped && rose[d.Answer.version] || d.Ask.call == doTry && d.Answer.ok && won[d.Ask.version] {
			t.Errorf("by %v: %v: another one has answered that, too", plays.Order(p.Trace), d)
		}
		if swapped {
			rose[d.Answer.version] = true
			won[d.Answer.version-1] = true
		}
		if d.Ask.call == doNow || d.Ask.call == doEnter {
			if d.Answer.version < seen[d.Thread] {
				t.Errorf("by %v: %v behind %d", plays.Order(p.Trace), d, seen[d.Thread])
			}
			seen[d.Thread] = d.Answer.version
		}
	}
	first, last := w.shown[0].version, w.shown[len(p.Trace)].version
	if uint64(len(rose)) != last-first {
		t.Errorf("by %v: it rose from %d to %d; the new versions that were answered: %v", plays.Order(p.Trace), first, last, rose)
	}
	w.ends()
	if t.Failed() {
		t.FailNow() // one play that is told is enough
	}
}

// had answers the numbers of a call's operations.
func had(trace []api.Turned, d done) []int {
	var own []int
	for op := d.From; op <= d.To && op > 0; op++ {
		if trace[op-1].Thread == d.Thread {
			own = append(own, op)
		}
	}
	return own
}

// fits tells whether what a call of a play answers is what was published when it looked, or what it has published itself.
func (w *watched) fits(trace []api.Turned, d done) bool {
	own := had(trace, d)
	switch d.Ask.call {
	case doNow, doEnter:
		return same(d.Answer, w.shown[d.To])
	case doLeave:
		return same(d.Answer, none()) && len(own) == 2
	case doPut:
		return len(own)%2 == 1 && w.published(own, d)
	case doTry:
		if !d.Answer.ok {
			// What it found, or what stood there when it would have swapped.
			return same(d.Answer, none()) && len(own) < 3 && w.shown[d.To].version != d.Ask.version
		}
		return len(own) == 3 && d.Answer.version == d.Ask.version+1 && w.published(own, d)
	}
	return d.Answer.e == api.OK
}

// published tells whether a call has published its value by its last operation but one, as the version that it answers.
func (w *watched) published(own []int, d done) bool {
	swap := own[len(own)-2]
	return same(w.shown[swap], shown(d.Ask.value, d.Answer.version)) && w.shown[swap-1].version == d.Answer.version-1
}

// ends holds a hold of which no call is under way against the words of P10.6.
func (w *watched) ends() {
	t := w.t
	t.Helper()
	for slot := range w.since {
		is(t, "still in", w.hold, nil, enter(slot), refused(api.ErrPinned))
		is(t, "still in", w.hold, nil, leave(slot), none())
	}
	clear(w.since)
	clear(w.got)
	v, now, _ := w.hold.Now(nil)
	for range 3 {
		list, e := w.hold.Free(nil)
		if w.free(list); e != api.OK {
			t.Errorf("Free: %v", e)
		}
	}
	stands(t, "behind three Frees", w.hold, v, now)
	for n := uint64(1); n < now; n++ {
		if !w.freed[n] {
			t.Errorf("%d was swapped out, and is not freed; freed are %v", n, w.freed)
		}
	}
}

// watchedByAllOrders holds such plays against the words of P10.2 to P10.8, and answers how often something was kept for somebody, and how often something was freed while somebody was in.
func watchedByAllOrders(t *testing.T, x play) (kept, gone int) {
	t.Helper()
	var w *watched
	for p, calls := range plays.EveryAsked(t, x.turns, x.asks, func() func(a ask, g api.Gate) answer {
		w = x.start.watch(t)
		return w.of
	}) {
		w.follows(p, calls)
		kept += w.kept
		gone += w.gone
	}
	return kept, gone
}

func TestP105HeldByAllOrders(t *testing.T) {
	for i, x := range []play{
		{10, from(1), [][]ask{stay(0, 8), append(one(put("b")), frees(3)...)}},
		{10, from(1, put("b"), free()), [][]ask{stay(0, 4), append(one(put("c")), frees(3)...)}},
		{9, from(2, put("b")), [][]ask{stay(1, 15), one(put("c"), free(), put("d"), free(), free())}},
		{7, from(1, free(), put("b")), [][]ask{stay(0, 9), one(put("c")), frees(4)}},
		{7, from(2, enter(0), put("b"), free()), [][]ask{one(now(), leave(0), enter(0), now()), stay(1, 9), one(put("c"), free(), free(), free())}},
		{6, from(3, put("b"), free()), [][]ask{stay(0, 9), one(enter(1)), one(put("c"), put("d")), frees(4)}},
		{5, from(2, put("b"), free()), [][]ask{stay(0, 1), one(enter(1), now()), one(put("c")), frees(3), frees(2)}},
	} {
		if kept, gone := watchedByAllOrders(t, x); kept == 0 || gone == 0 {
			t.Errorf("%d: kept for somebody %d times, freed while somebody was in %d times", i, kept, gone)
		}
	}
}

// TestP105WhoPinnedAheadOfASwap: between its Pin and its Load, and at its Pin's rounds, what it may find is kept, too.
func TestP105WhoPinnedAheadOfASwap(t *testing.T) {
	for i, x := range []play{
		{12, from(1), [][]ask{one(enter(0), now()), one(put("b"), free(), free(), free())}},
		{12, from(1, put("b"), free()), [][]ask{one(enter(0), now()), one(put("c"), free(), free(), free())}},
		{8, from(1), [][]ask{one(enter(0), now(), now()), one(put("b"), put("c")), frees(5)}},
	} {
		if kept, gone := watchedByAllOrders(t, x); kept == 0 || gone == 0 {
			t.Errorf("%d: kept for somebody %d times, freed while somebody was in %d times", i, kept, gone)
		}
	}
}

func TestP106FreedByAllOrders(t *testing.T) {
	for _, x := range []play{
		{api.MaxTurns, from(1, put("b"), free()), [][]ask{frees(1), frees(1)}},
		{9, from(1, put("b"), put("c")), [][]ask{frees(2), frees(2)}},
		{7, from(2, put("b"), free(), put("c")), [][]ask{frees(2), frees(2), one(put("d"))}},
		{9, from(1, put("b")), [][]ask{one(put("c"), put("d")), frees(3)}},
		{6, from(1, put("b"), free(), put("c"), free()), [][]ask{frees(1), frees(1), frees(1), one(put("d"), free())}},
	} {
		watchedByAllOrders(t, x)
	}
}

func TestP107VersionsByAllOrders(t *testing.T) {
	for _, x := range []play{
		{api.MaxTurns, from(1), [][]ask{one(put("b"), put("c")), one(put("d"))}},
		{9, from(1), [][]ask{one(put("b")), one(put("c")), one(put("d"))}},
		{9, from(1), [][]ask{one(put("b"), now()), one(try(1, "c"), now(), try(2, "d")), one(now(), now(), now())}},
		{8, from(2, put("b")), [][]ask{one(put("c"), now()), one(enter(0), now(), leave(0), enter(0)), one(try(2, "d"), try(3, "e"))}},
		{6, from(2), [][]ask{one(now(), put("b"), now()), one(now(), put("c"), now()), one(put("d"), free()), stay(1, 1)}},
	} {
		watchedByAllOrders(t, x)
	}
}

func TestP108TrysByAllOrders(t *testing.T) {
	for _, x := range []play{
		{api.MaxTurns, from(1), [][]ask{one(try(1, "b")), one(try(1, "c"))}},
		{api.MaxTurns, from(1), [][]ask{one(try(1, "b")), one(try(1, "c")), one(try(1, "d"))}},
		{10, from(1), [][]ask{one(try(1, "b"), try(2, "c")), one(try(1, "d"), try(2, "e"))}},
		{8, from(1, put("z")), [][]ask{one(try(2, "b"), try(3, "c")), one(try(2, "d")), one(put("e"), try(3, "f"))}},
		{6, from(1), [][]ask{one(try(1, "b")), one(try(1, "c")), one(try(1, "d")), one(try(1, "e")), one(try(2, "f"))}},
	} {
		watchedByAllOrders(t, x)
	}
}

// TestP108OneAloneSaysTrue: of as many as there may be, that all have found the version.
func TestP108OneAloneSaysTrue(t *testing.T) {
	for first := range api.MaxThreads {
		h := made(t, "a", 1)
		var asks [][]ask
		order := []int{}
		for k := range api.MaxThreads {
			asks = append(asks, one(try(1, string(rune('b'+k)))))
			order = append(order, k)
		}
		_, calls, e := plays.Asked(append(order, first), asks, asking(h))
		for _, d := range calls {
			want := none()
			if d.Thread == first {
				want = tried(2)
			}
			if !same(d.Answer, want) {
				t.Errorf("%v: %v, not %v", d.Ask, d.Answer, want)
			}
		}
		if e != api.OK || len(calls) != api.MaxThreads {
			t.Errorf("%v: %d calls", e, len(calls))
		}
		stands(t, "behind them", h, string(rune('b'+first)), 2, 1)
	}
}

// TestP103APutThatIsOvertaken begins anew each time, and publishes at last.
func TestP103APutThatIsOvertaken(t *testing.T) {
	for others := range 60 {
		h := made(t, "a", 1)
		order := []int{0}
		for range others {
			order = append(order, 1, 1, 1, 0, 0)
		}
		p, calls, e := plays.Asked(order, [][]ask{one(put("z")), slices.Repeat(one(put("b")), others)}, asking(h))
		last := calls[len(calls)-1]
		if e != api.OK || len(p.Trace) != 3+5*others || last.Thread != 0 || !same(last.Answer, did(uint64(others)+2)) {
			t.Errorf("%d others: %v, %d operations, %v", others, e, len(p.Trace), last)
		}
		is(t, "behind them", h, nil, now(), shown("z", uint64(others)+2))
	}
}

// lister makes lists of calls, always the same ones: it is no chance.
type lister struct{ from *rand.Rand }

// value answers one that no other call has.
func (l lister) value(thread, i int) string {
	return string([]byte{byte('a' + thread), byte('0' + i/10), byte('0' + i%10)})
}

// asks answers so many calls of a thread whose slots are these; a slot by which it is in it leaves, and no other one.
func (l lister) asks(thread, calls int, slots ...int) []ask {
	var list []ask
	isIn := map[int]bool{}
	for i := range calls {
		slot := -1
		if len(slots) > 0 {
			slot = slots[l.from.IntN(len(slots))]
		}
		version := uint64(l.from.IntN(1 + 2*i))
		switch k := l.from.IntN(12); {
		case k == 0:
			list = append(list, now())
		case k == 1:
			list = append(list, kept(), old(version))
		case k == 2:
			list = append(list, put(l.value(thread, i)))
		case k == 3:
			list = append(list, try(version, l.value(thread, i)))
		case k < 8 || slot < 0:
			list = append(list, free())
		case isIn[slot]:
			list = append(list, leave(slot))
			isIn[slot] = false
		default:
			list = append(list, enter(slot))
			isIn[slot] = true
		}
	}
	return list
}

func TestP106LongPlays(t *testing.T) {
	l := lister{rand.New(rand.NewPCG(10, 6))}
	var met meetings
	kept, gone := 0, 0
	for i := range 300 {
		threads := 2 + i%5
		x := from(1 + i%api.MaxPins)
		asks := make([][]ask, threads)
		for k := range asks {
			var own []int
			// The last thread has no slots.
			for slot := k; slot < x.n && k < threads-1; slot += threads - 1 {
				own = append(own, slot)
			}
			asks[k] = l.asks(k, 40, own...)
		}
		h, w := x.watch(t), x.twin()
		p, calls, e := plays.Asked(plays.Drawn(l.from.IntN, 1200, threads, 1+i%24), asks, h.of)
		want, wanted, _ := plays.Asked(plays.Order(p.Trace), asks, asking(w))
		if e != api.OK || len(p.Cut) != 0 || !slices.Equal(p.Trace, want.Trace) || !plays.SameCalls(calls, wanted, same) {
			t.Fatalf("by %v: %v, cut %v: not as the steps say", plays.Order(p.Trace), e, p.Cut)
		}
		h.follows(p, calls)
		met.add(w.met)
		kept, gone = kept+h.kept, gone+h.gone
	}
	if met.later == 0 || met.round == 0 || met.again == 0 || met.another == 0 || met.lost == 0 || met.lateKept == 0 || met.laterEpoch == 0 ||
		met.unmoved == 0 || met.left == 0 || met.refused != 0 || kept == 0 || gone == 0 {
		t.Errorf("%+v, kept %d, gone %d", met, kept, gone)
	}
}

// TestP102LongPlaysOfOneSlot: what the steps say holds where a slot is not one thread's, too.
func TestP102LongPlaysOfOneSlot(t *testing.T) {
	l := lister{rand.New(rand.NewPCG(10, 2))}
	var met meetings
	for i := range 300 {
		threads, x := 2+i%5, from(1+i%3)
		asks := make([][]ask, threads)
		for k := range asks {
			asks[k] = l.asks(k, 40, 0, x.n-1)
		}
		h, w := x.hold(t), x.twin()
		p, _ := plays.AsTwin(t, plays.Drawn(l.from.IntN, 1000, threads, 1+i%12), asks, asIs(h, x.n), asIs(w, x.n))
		if len(p.Cut) != 0 {
			t.Fatalf("by %v: cut %v", plays.Order(p.Trace), p.Cut)
		}
		met.add(w.met)
	}
	if met.refused == 0 || met.left == 0 {
		t.Errorf("%+v", met)
	}
}
