package gates

import (
	"slices"
	"testing"

	"patchbay/api"
	"patchbay/turn"
)

func TestTell(t *testing.T) {
	n := turn.NewNotes()
	want := []api.Mark{{Op: api.OpLoad, Word: 0}, {Op: api.OpCAS, Word: 7}, {Op: api.OpStore, Word: 1 << 40}}
	for _, m := range want {
		Tell(n, m.Op, m.Word)
	}
	if got := n.Marks(); !slices.Equal(got, want) {
		t.Errorf("%v, not %v", got, want)
	}
}

func TestTellNobody(t *testing.T) {
	Tell(nil, api.OpLoad, 0)
	Tell((*turn.Notes)(nil), api.OpLoad, 0)
}

func TestAs(t *testing.T) {
	n := turn.NewNotes()
	var want []api.Mark
	for _, word := range []int{0, 1, 66, -1, 1 << 40} {
		g := As(n, word)
		for _, m := range []api.Mark{{Op: api.OpLoad, Word: 0}, {Op: api.OpCAS, Word: 7}, {Op: api.OpSwap, Word: -3}} {
			g.Step(m)
			want = append(want, api.Mark{Op: m.Op, Word: word})
		}
	}
	// As one word of an object that is itself one word of another one.
	As(As(n, 5), 9).Step(api.Mark{Op: api.OpAdd, Word: 1})
	want = append(want, api.Mark{Op: api.OpAdd, Word: 5})
	if got := n.Marks(); !slices.Equal(got, want) {
		t.Errorf("%v, not %v", got, want)
	}
}

func TestAsOfNobody(t *testing.T) {
	if g := As(nil, 7); g != nil {
		t.Errorf("%v: a free call is not free any more", g)
	}
	As((*turn.Notes)(nil), 7).Step(api.Mark{Op: api.OpLoad, Word: 0})
}

func TestWords(t *testing.T) {
	w := make(Words, 3)
	n := turn.NewNotes()
	for _, g := range []api.Gate{n, nil} {
		w.Store(g, 2, 7)
		w.Store(g, 0, 1<<64-1)
		if v := w.Load(g, 2); v != 7 {
			t.Errorf("Load: %d", v)
		}
		for _, x := range []struct {
			word     int
			from, to uint64
			want     bool
			behind   uint64
		}{{2, 8, 9, false, 7}, {2, 7, 9, true, 9}, {2, 9, 9, true, 9}, {0, 1<<64 - 1, 0, true, 0}, {1, 0, 5, true, 5}} {
			if ok := w.CAS(g, x.word, x.from, x.to); ok != x.want || w[x.word].Load() != x.behind {
				t.Errorf("CAS: %v of %v, %d stands there", ok, x, w[x.word].Load())
			}
		}
		if v := w.Add(g, 1, 3); v != 8 {
			t.Errorf("Add: %d", v)
		}
		if v := w.Add(g, 1, 1<<64-1); v != 7 || w[1].Load() != 7 || w[0].Load() != 0 || w[2].Load() != 9 {
			t.Errorf("Add of a number that goes round: %d, %v", v, w)
		}
		w.Store(g, 1, 0)
	}
	want := []api.Mark{{Op: api.OpStore, Word: 2}, {Op: api.OpStore, Word: 0}, {Op: api.OpLoad, Word: 2}, {Op: api.OpCAS, Word: 2}, {Op: api.OpCAS, Word: 2},
		{Op: api.OpCAS, Word: 2}, {Op: api.OpCAS, Word: 0}, {Op: api.OpCAS, Word: 1}, {Op: api.OpAdd, Word: 1}, {Op: api.OpAdd, Word: 1}, {Op: api.OpStore, Word: 1}}
	if got := n.Marks(); !slices.Equal(got, want) {
		t.Errorf("%v, not %v", got, want)
	}
}

// TestWordsTellAheadOfTheOperation: whoever has turns while one is held up meets the words as they were.
func TestWordsTellAheadOfTheOperation(t *testing.T) {
	w := make(Words, 1)
	var seen []uint64
	var swapped bool
	first := func(g api.Gate) {
		w.Store(g, 0, 5)
		swapped = w.CAS(g, 0, 5, 6)
		seen = append(seen, w.Load(g, 0), w.Add(g, 0, 1))
	}
	second := func(g api.Gate) {
		for range 2 {
			seen = append(seen, w.Load(g, 0))
		}
		w.Store(g, 0, 9)
		w.Store(g, 0, 20)
	}
	p, e := turn.Play([]int{1, 0, 1, 0, 1, 0, 1, 0}, first, second)
	if want := []uint64{0, 5, 9, 21}; e != api.OK || len(p.Trace) != 8 || !slices.Equal(seen, want) || !swapped {
		t.Errorf("%v, %v: saw %v, not %v", e, p, seen, want)
	}
}
