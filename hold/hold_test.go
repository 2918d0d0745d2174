package hold_test

import (
	"math"
	"runtime"
	"slices"
	"testing"
	"weak"

	"patchbay/api"
	"patchbay/epoch"
	"patchbay/hold"
	"patchbay/plays"
	"patchbay/turn"
)

func TestP101NewThatMayNotBe(t *testing.T) {
	wrong := []int{0, -1, -2, -api.MaxPins, api.MaxPins + 1, api.MaxPins + 2, 2 * api.MaxPins, 64, 256, 257, 1 << 16, 1<<16 + 1,
		1 << 31, 1<<31 + 1, 1 << 32, 1<<32 + 1, 1 << 62, math.MaxInt, math.MinInt, math.MinInt + 1, math.MinInt + api.MaxPins}
	for _, n := range wrong {
		_, want := epoch.New(n)
		if h, e := hold.New("a", n); h != nil || e != want || e != api.ErrArg {
			t.Errorf("New(%d): %v, %v, not %v", n, h, e, want)
		}
		if h, e := hold.New(struct{}{}, n); h != nil || e != want {
			t.Errorf("New(%d) of another type: %v, %v, not %v", n, h, e, want)
		}
	}
}

func TestP101New(t *testing.T) {
	for n := 1; n <= api.MaxPins; n++ {
		h := made(t, "a", n)
		stands(t, "New", h, "a", 1)
		for slot := range n {
			is(t, "nobody is in", h, nil, leave(slot), refused(api.ErrPinned))
			is(t, "New", h, nil, enter(slot), shown("a", 1))
		}
		is(t, "New", h, nil, enter(n), refused(api.ErrRange))
		// Its epoch is 1: who is in hinders the second Free, not the first one.
		tells(t, "New", h, free(), none(), freeSteps(n)...)
		tells(t, "New", h, free(), none(), hinderedSteps(0)...)
	}
}

func TestP101HoldsAreTheirOwn(t *testing.T) {
	a, b := made(t, "a", 2), made(t, "z", 2)
	a.Put(nil, "b")
	a.Enter(nil, 0)
	b.Enter(nil, 1)
	b.Free(nil)
	is(t, "b", b, nil, try(1, "y"), tried(2))
	is(t, "b", b, nil, free(), none())
	is(t, "b", b, nil, leave(1), none())
	is(t, "b", b, nil, leave(0), refused(api.ErrPinned))
	is(t, "a", a, nil, leave(1), refused(api.ErrPinned))
	stands(t, "a", a, "b", 2, 1)
	stands(t, "b", b, "y", 2, 1)
}

// call is a call, and what it answers.
type call struct {
	ask  ask
	want answer
}

// answers ends in an error, where one of several calls, one after the other, answers otherwise.
func answers(t *testing.T, o object, list []call) {
	t.Helper()
	for i, x := range list {
		if got := x.ask.of(o, nil); !same(got, x.want) {
			t.Errorf("%d: %v: %v, not %v", i, x.ask, got, x.want)
		}
	}
}

func TestP102Examples(t *testing.T) {
	h := made(t, "a", 2)
	answers(t, h, []call{
		{now(), shown("a", 1)}, {put("b"), did(2)}, {now(), shown("b", 2)}, {kept(), versions(1)},
	})
	answers(t, h, []call{
		{try(1, "c"), none()}, {try(2, "c"), tried(3)}, {old(1), known("a")}, {old(3), known("c")},
		{old(4), none()},
	})
	answers(t, h, []call{
		{free(), none()}, {free(), versions(1, 2)}, {kept(), none()}, {old(1), none()},
	})
	tells(t, "an example", h, put("d"), did(4), load(0), cas(0), load(0))
	tells(t, "an example", h, enter(1), shown("d", 4), load(2), load(0), store(2), load(0), load(0))
	tells(t, "an example", h, leave(1), none(), load(2), store(2))
	h = made(t, "a", 2)
	answers(t, h, []call{
		{enter(0), shown("a", 1)}, {put("b"), did(2)}, {free(), none()}, {free(), none()},
		{free(), none()}, {leave(0), none()}, {free(), versions(1)}, {free(), none()},
		{enter(2), refused(api.ErrRange)},
	})
}

func TestP102OperationsOfAllSizes(t *testing.T) {
	for n := 1; n <= api.MaxPins; n++ {
		h := made(t, "a", n)
		for round := range uint64(4) {
			v := 2*round + 1
			tells(t, "Now", h, now(), shown("a", v), load(0))
			for slot := range n {
				tells(t, "nobody is in", h, leave(slot), refused(api.ErrPinned), load(1+slot))
				tells(t, "nobody is in", h, enter(slot), shown("a", v), enterSteps(slot)...)
				tells(t, "in", h, enter(slot), refused(api.ErrPinned), load(1+slot))
			}
			tells(t, "Put", h, put("b"), did(v+1), putSteps()...)
			tells(t, "all are in", h, free(), none(), freeSteps(n)...)
			for slot := range n {
				tells(t, "in of an older epoch", h, free(), none(), hinderedSteps(slot)...)
				tells(t, "in", h, leave(slot), none(), leaveSteps(slot)...)
			}
			tells(t, "Try", h, try(v, "a"), none(), load(0))
			tells(t, "Try", h, try(v+2, "a"), none(), load(0))
			tells(t, "Try", h, try(v+1, "a"), tried(v+2), putSteps()...)
			tells(t, "nobody is in", h, free(), versions(v), freeSteps(n)...)
			tells(t, "nobody is in", h, free(), versions(v+1), freeSteps(n)...)
			tells(t, "nothing is kept", h, free(), none(), freeSteps(n)...)
			tells(t, "Kept", h, kept(), none())
			tells(t, "Old", h, old(v+2), known("a"))
		}
	}
}

// TestP102FreeCallsAnswerTheSame: a gate that is nil is told nothing.
func TestP102FreeCallsAnswerTheSame(t *testing.T) {
	for n := 1; n <= api.MaxPins; n++ {
		h, w := from(n).hold(t), from(n).twin()
		for i := range 500 {
			v := uint64(i / 8)
			a := []ask{now(), enter(i * 7 % n), put("b"), free(), leave(i * 5 % n), try(v, "c"), try(w.version, "d"), kept(), old(v), old(w.version - 2), enter(n), leave(-1)}[i*5%12]
			is(t, "free", h, nil, a, a.of(w, turn.NewNotes()))
		}
		if got, want := look(h, n), look(w, n); !slices.Equal(got, want) {
			t.Errorf("of %d: %v, not %v", n, got, want)
		}
	}
}

func TestP102SlotsThatAreNone(t *testing.T) {
	for n := 1; n <= api.MaxPins; n++ {
		h := from(n, put("b"), enter(0)).hold(t)
		for _, slot := range []int{-1, -2, -n, n, n + 1, api.MaxPins, api.MaxPins + 1, 255, 256, 1 << 16, 1 << 32, 1<<32 + n - 1, 1 << 62,
			math.MaxInt, math.MinInt, math.MinInt + n - 1} {
			for _, a := range []ask{enter(slot), leave(slot)} {
				tells(t, "none", h, a, refused(api.ErrRange))
				is(t, "none", h, nil, a, refused(api.ErrRange))
			}
		}
		stands(t, "behind them", h, "b", 2, 1)
		is(t, "behind them", h, nil, leave(0), none())
	}
}

func TestP102RefusalsChangeNothing(t *testing.T) {
	x := from(3, enter(0), put("b"), free(), enter(2))
	h, want := x.hold(t), look(x.hold(t), 3)
	for range 3 {
		is(t, "in of an older epoch", h, nil, enter(0), refused(api.ErrPinned))
		is(t, "in", h, nil, enter(2), refused(api.ErrPinned))
		is(t, "not in", h, nil, leave(1), refused(api.ErrPinned))
		for _, n := range []uint64{0, 1, 3, 4, 2 + 1<<32, 2 + 1<<63, 1 << 63, top - 1, top} {
			is(t, "not published", h, nil, try(n, "c"), none())
		}
		is(t, "hindered", h, nil, free(), none())
	}
	if got := look(h, 3); !slices.Equal(got, want) {
		t.Errorf("behind them: %v, not %v", got, want)
	}
}

func TestP102HoldsThatAreNone(t *testing.T) {
	whole := from(2, put("b"), enter(0)).hold(t)
	for name, h := range map[string]*texts{"nil": nil, "a zero value": {}, "new": new(texts), "a copy": plays.Copied(whole)} {
		// ErrNil comes ahead of all else: there is no such slot, either.
		for _, a := range []ask{now(), enter(0), enter(1), enter(-1), enter(2), enter(99), leave(0), leave(1), leave(-1), leave(99),
			put("c"), put(""), try(0, "c"), try(1, "c"), try(2, "c"), try(top, "c"), free()} {
			tells(t, name, h, a, refused(api.ErrNil))
			is(t, name, h, nil, a, refused(api.ErrNil))
		}
		for _, a := range []ask{kept(), old(0), old(1), old(2), old(top)} {
			tells(t, name, h, a, none())
		}
	}
	stands(t, "the whole one", whole, "b", 2, 1)
	is(t, "the whole one", whole, nil, enter(0), refused(api.ErrPinned))
	var other *hold.Hold[*int]
	if v, n, e := other.Now(nil); v != nil || n != 0 || e != api.ErrNil {
		t.Errorf("one of pointers: %v, %d, %v", v, n, e)
	}
}

func TestP102AGateThatIsANilPointer(t *testing.T) {
	// It is no nil interface: it is told, and does nothing.
	h := made(t, "a", 1)
	g := (*turn.Notes)(nil)
	is(t, "such a gate", h, g, now(), shown("a", 1))
	is(t, "such a gate", h, g, enter(0), shown("a", 1))
	is(t, "such a gate", h, g, put("b"), did(2))
	is(t, "such a gate", h, g, try(2, "c"), tried(3))
	is(t, "such a gate", h, g, leave(0), none())
	is(t, "such a gate", h, g, free(), none())
	is(t, "such a gate", h, g, free(), versions(1, 2))
}

func TestP102EnterHoldsOnlyItsSlot(t *testing.T) {
	h := made(t, "a", 4)
	answers(t, h, []call{
		{enter(1), shown("a", 1)}, {put("b"), did(2)}, {enter(3), shown("b", 2)}, {enter(1), refused(api.ErrPinned)},
		{leave(0), refused(api.ErrPinned)}, {leave(1), none()}, {enter(1), shown("b", 2)}, {leave(3), none()},
		{leave(3), refused(api.ErrPinned)}, {enter(0), shown("b", 2)}, {leave(1), none()}, {leave(0), none()},
	})
	for slot := range 4 {
		is(t, "nobody is in", h, nil, leave(slot), refused(api.ErrPinned))
	}
}

func TestP103VersionsOfPutsAndTrys(t *testing.T) {
	h := made(t, "a", 1)
	for i := range uint64(200) {
		n := 2*i + 1
		is(t, "Put", h, nil, put("b"), did(n+1))
		is(t, "behind a Put", h, nil, now(), shown("b", n+1))
		for _, wrong := range []uint64{0, 1, n, n + 2, n + 3, n + 1 + 1<<32, n + 1 + 1<<63, math.MaxInt64, 1 << 63, top - n, top} {
			if wrong != n+1 {
				is(t, "Try of another version", h, nil, try(wrong, "x"), none())
			}
		}
		is(t, "behind wrong ones", h, nil, now(), shown("b", n+1))
		is(t, "Try", h, nil, try(n+1, "c"), tried(n+2))
		is(t, "behind a Try", h, nil, now(), shown("c", n+2))
		if got := h.Kept(); uint64(len(got)) != n+1 || got[0] != 1 || got[n] != n+1 {
			t.Fatalf("Kept of %d: %v", n+2, got)
		}
	}
}

// TestP104EachInItsEpoch: what is swapped out two epochs behind is freed, what is later is left.
func TestP104EachInItsEpoch(t *testing.T) {
	h := made(t, "a", 3)
	answers(t, h, []call{
		{free(), none()}, {put("b"), did(2)}, {free(), none()}, {put("c"), did(3)},
		{put("d"), did(4)}, {kept(), versions(1, 2, 3)}, {free(), versions(1)}, {kept(), versions(2, 3)},
		{put("e"), did(5)}, {kept(), versions(2, 3, 4)}, {old(3), known("c")}, {old(1), none()},
		{free(), versions(2, 3)}, {kept(), versions(4)}, {free(), versions(4)}, {kept(), none()},
		{free(), none()},
	})
	stands(t, "behind them", h, "e", 5)
}

func TestP104AHinderedFreeFreesWhatIsSafe(t *testing.T) {
	h := made(t, "a", 1)
	answers(t, h, []call{
		{put("b"), did(2)}, {free(), none()}, {enter(0), shown("b", 2)}, {put("c"), did(3)},
	})
	tells(t, "it moves", h, free(), versions(1), freeSteps(1)...)
	tells(t, "it does not move", h, free(), none(), hinderedSteps(0)...)
	stands(t, "held", h, "c", 3, 2)
	answers(t, h, []call{{leave(0), none()}, {free(), versions(2)}})
}

func TestP104OldOfOtherVersions(t *testing.T) {
	h := from(1, put("b"), put("c"), free(), put("d"), free()).hold(t)
	stands(t, "some are freed", h, "d", 4, 3)
	for _, n := range []uint64{3, 4} {
		for _, far := range []uint64{1 << 8, 1 << 16, 1 << 31, 1 << 32, 1 << 63} {
			is(t, "a version that is none", h, nil, old(n+far), none())
		}
	}
	for _, n := range []uint64{0, 1, 2, 5, 6, math.MaxInt64, 1 << 63, top - 1, top} {
		is(t, "a version that is none", h, nil, old(n), none())
	}
}

func TestP104KeptAndFreedAreNewLists(t *testing.T) {
	h := from(1, put("b"), put("c"), put("d")).hold(t)
	a := h.Kept()
	a[0] = 99
	_ = append(a[:1], 98, 97, 96)
	stands(t, "behind a list that is changed", h, "d", 4, 1, 2, 3)
	h.Free(nil)
	b, _ := h.Free(nil)
	h.Put(nil, "e")
	c := h.Kept()
	b[0], b[2] = 77, 78
	_ = append(b, 79, 80)
	if !slices.Equal(b, []uint64{77, 2, 78}) || !slices.Equal(c, []uint64{4}) {
		t.Errorf("%v, %v", b, c)
	}
	stands(t, "behind that", h, "e", 5, 4)
}

func TestP104ManyAreKept(t *testing.T) {
	const many = 5000
	h := made(t, 0, 2)
	h.Enter(nil, 1)
	var all []uint64
	for i := range many {
		h.Put(nil, i+1)
		all = append(all, uint64(i)+1)
	}
	for range 3 {
		if list, e := h.Free(nil); len(list) != 0 || e != api.OK {
			t.Fatalf("held: %d are freed, %v", len(list), e)
		}
	}
	if got := h.Kept(); !slices.Equal(got, all) {
		t.Errorf("%d are kept", len(got))
	}
	for i := range many + 1 {
		if v, ok := h.Old(uint64(i) + 1); v != i || !ok {
			t.Fatalf("Old(%d): %d, %v", i+1, v, ok)
		}
	}
	h.Leave(nil, 1)
	list, _ := h.Free(nil)
	if !slices.Equal(list, all) || len(h.Kept()) != 0 {
		t.Errorf("%d are freed, %d are kept", len(list), len(h.Kept()))
	}
}

func TestP102WhatAValuePointsToIsShared(t *testing.T) {
	at, list, table := &[2]int{1, 2}, []int{1, 2, 3}, map[string]int{"a": 1}
	p, s, m := made(t, at, 1), made(t, list[:2], 1), made(t, table, 1)
	at[0], list[0], table["b"] = 8, 9, 2
	if v, _, _ := p.Now(nil); v != at || v[0] != 8 {
		t.Errorf("a pointer: %v", v)
	}
	if v, _, _ := s.Enter(nil, 0); len(v) != 2 || cap(v) != 3 || &v[0] != &list[0] || v[0] != 9 {
		t.Errorf("a slice: %v", v)
	}
	if v, _ := m.Old(1); v["b"] != 2 {
		t.Errorf("a map: %v", v)
	}
	s.Put(nil, list[1:])
	got, n, _ := s.Now(nil)
	got[1] = 7
	if v, ok := s.Old(1); n != 2 || !ok || &v[0] != &list[0] || list[2] != 7 {
		t.Errorf("one that is kept: %v, %v, %v", v, ok, list)
	}
	if n, ok, e := p.Try(nil, 1, nil); n != 2 || !ok || e != api.OK {
		t.Errorf("Try of nil: %d, %v, %v", n, ok, e)
	}
	if v, n, e := p.Now(nil); v != nil || n != 2 || e != api.OK {
		t.Errorf("nil: %v, %d, %v", v, n, e)
	}
}

func TestP102WhatAValueHoldsItselfIsNotShared(t *testing.T) {
	type pair struct {
		list [3]int
		text string
	}
	v := pair{[3]int{1, 2, 3}, "a"}
	h := made(t, v, 1)
	v.list[0], v.text = 9, "z"
	got, _, _ := h.Now(nil)
	got.list[1] = 9
	h.Put(nil, got)
	got.list[2] = 9
	if v, ok := h.Old(1); v != (pair{[3]int{1, 2, 3}, "a"}) || !ok {
		t.Errorf("the first one: %v", v)
	}
	if v, n, _ := h.Enter(nil, 0); v != (pair{[3]int{1, 9, 3}, "a"}) || n != 2 {
		t.Errorf("the second one: %v, %d", v, n)
	}
}

func TestP103ValuesOfAllKinds(t *testing.T) {
	f := made[func() int](t, nil, 1)
	f.Put(nil, func() int { return 4 })
	f.Try(nil, 2, func() int { return 5 })
	now, n, _ := f.Now(nil)
	was, ok := f.Old(2)
	if n != 3 || !ok || now() != 5 || was() != 4 {
		t.Errorf("functions: %d, %v", n, ok)
	}
	a := made[any](t, []int{1}, 1)
	a.Put(nil, map[int]int{})
	if n, ok, _ := a.Try(nil, 2, nil); n != 3 || !ok {
		t.Errorf("what can't be compared: %d, %v", n, ok)
	}
	if v, ok := a.Old(3); v != nil || !ok {
		t.Errorf("nil is a value: %v, %v", v, ok)
	}
	same, empty := made(t, 7, 1), made(t, struct{}{}, 1)
	for n := range uint64(20) {
		same.Put(nil, 7)
		empty.Put(nil, struct{}{})
		_, ok, _ := same.Try(nil, 2*n+1, 7)
		_, okEmpty, _ := empty.Try(nil, 2*n+1, struct{}{})
		if ok || okEmpty {
			t.Errorf("the same value, but another version: %v, %v", ok, okEmpty)
		}
		same.Try(nil, 2*n+2, 7)
		empty.Try(nil, 2*n+2, struct{}{})
	}
	_, n, _ = same.Now(nil)
	if _, m, _ := empty.Now(nil); n != 41 || m != 41 || len(same.Kept()) != 40 || len(empty.Kept()) != 40 {
		t.Errorf("values that are the same: %d, %d", n, m)
	}
}

// TestP106WhatIsFreedIsLetGo: a hold has nothing of it any more.
func TestP106WhatIsFreedIsLetGo(t *testing.T) {
	type big struct{ room [1 << 12]byte }
	const many = 9
	h := made(t, new(big), 2)
	var gone [many]weak.Pointer[big]
	for i := range gone {
		v := new(big)
		gone[i] = weak.Make(v)
		h.Put(nil, v)
		if i == many-3 {
			// Of those ahead of it the first ones are freed below, the last ones are kept.
			h.Free(nil)
		}
	}
	h.Free(nil)
	if list := h.Kept(); !slices.Equal(list, []uint64{many - 1, many}) {
		t.Errorf("kept: %v", list)
	}
	runtime.GC()
	for i, p := range gone {
		// The version of each is its number and two.
		if there := p.Value() != nil; there != (i+2 >= many-1) {
			t.Errorf("the version %d is there: %v", i+2, there)
		}
	}
	runtime.KeepAlive(h)
}

// TestP104WhatIsCutOff: what was done of it stands, and no more.
func TestP104WhatIsCutOff(t *testing.T) {
	begin := from(2, put("b"), free(), put("c"))
	stood := look(begin.hold(t), 2)
	entered := look(from(2, append(begin.ahead, enter(1))...).hold(t), 2)
	for _, x := range []struct {
		ask   ask
		ops   int      // how many it has
		done  int      // behind so many of them
		stood []uint64 // it stands so
	}{
		{now(), 1, 2, nil}, {enter(1), 5, 3, entered}, {kept(), 0, 1, nil}, {old(1), 0, 1, nil},
	} {
		for ops := range x.ops + 1 {
			h := begin.hold(t)
			if cut := plays.CutOff(ops, func(g api.Gate) { x.ask.of(h, g) }); cut != (ops < x.ops) {
				t.Errorf("%v behind %d operations is cut off: %v", x.ask, ops, cut)
			}
			want := stood
			if ops >= x.done {
				want = x.stood
			}
			if got := look(h, 2); !slices.Equal(got, want) {
				t.Errorf("%v behind %d operations: %v, not %v", x.ask, ops, got, want)
			}
		}
	}
}

// TestP104APutThatIsCutOff: what it swapped out is published no more, and is not kept, so it is not freed either.
func TestP104APutThatIsCutOff(t *testing.T) {
	for _, a := range []ask{put("c"), try(2, "c")} {
		for ops := range 4 {
			h := from(1, put("b")).hold(t)
			if cut := plays.CutOff(ops, func(g api.Gate) { a.of(h, g) }); cut != (ops < 3) {
				t.Errorf("%v behind %d operations is cut off: %v", a, ops, cut)
			}
			switch ops {
			case 0, 1:
				stands(t, "ahead of its swap", h, "b", 2, 1)
			case 2:
				stands(t, "behind its swap", h, "c", 3, 1)
				answers(t, h, []call{
					{free(), none()}, {put("d"), did(4)}, {free(), versions(1)}, {free(), versions(3)},
					{free(), none()}, {kept(), none()},
				})
			case 3:
				stands(t, "at its end", h, "c", 3, 1, 2)
			}
		}
	}
}

// TestP104AFreeThatIsCutOff frees nothing, though the epoch may have gone on.
func TestP104AFreeThatIsCutOff(t *testing.T) {
	for ops := range 5 {
		h := from(1, put("b"), free(), enter(0)).hold(t)
		if cut := plays.CutOff(ops, func(g api.Gate) { h.Free(g) }); cut != (ops < 4) {
			t.Errorf("behind %d operations it is cut off: %v", ops, cut)
		}
		switch ops {
		case 0, 1, 2:
			stands(t, "ahead of its swap", h, "b", 2, 1)
			tells(t, "ahead of its swap", h, free(), versions(1), freeSteps(1)...)
		case 3:
			stands(t, "behind its swap", h, "b", 2, 1)
			tells(t, "behind its swap", h, free(), versions(1), hinderedSteps(0)...)
		case 4:
			stands(t, "at its end", h, "b", 2)
			tells(t, "at its end", h, free(), none(), hinderedSteps(0)...)
		}
	}
}
