package plays

import (
	"slices"
	"testing"

	"patchbay/api"
)

// called is a call that loads as many words as it is asked, and answers how many calls there were ahead of its end.
type called = Done[int, int]

// loading answers what asks so.
func loading() func(words int, g api.Gate) int {
	ended := 0
	return func(words int, g api.Gate) int {
		for i := range words {
			g.Step(Load(i))
		}
		ended++
		return ended - 1
	}
}

func TestAsked(t *testing.T) {
	for _, x := range []struct {
		order []int
		asks  [][]int
		want  []called
	}{
		{nil, [][]int{{2, 1}, {1}}, []called{{1, 1, 0, 2, 2}, {0, 2, 1, 1, 3}, {0, 1, 2, 4, 4}}},
		{[]int{0, 0, 0}, [][]int{{2, 1}, {1}}, []called{{0, 2, 0, 1, 2}, {0, 1, 1, 3, 3}, {1, 1, 2, 4, 4}}},
		{[]int{1, 0, 0, 1}, [][]int{{2}, {2}}, []called{{0, 2, 0, 2, 3}, {1, 2, 1, 1, 4}}},
		// Calls without operations: the first turn goes through them.
		{[]int{1}, [][]int{{0, 1, 0}, {0}}, []called{{0, 0, 0, 0, 0}, {1, 0, 1, 0, 0}, {0, 1, 2, 1, 1}, {0, 0, 3, 0, 0}}},
		{nil, [][]int{nil, {1}}, []called{{1, 1, 0, 1, 1}}},
	} {
		p, calls, e := Asked(x.order, x.asks, loading())
		if e != api.OK || !slices.Equal(calls, x.want) {
			t.Errorf("by %v: %v, %v, not %v", x.order, e, calls, x.want)
		}
		// What is played again by its trace tells the same.
		q, again, _ := Asked(Order(p.Trace), x.asks, loading())
		if !slices.Equal(p.Trace, q.Trace) || !slices.Equal(calls, again) {
			t.Errorf("by %v: %v, %v, not %v, %v", Order(p.Trace), q.Trace, again, p.Trace, calls)
		}
	}
}

func TestAskedThatMayNotBe(t *testing.T) {
	for want, threads := range map[api.Errno]int{api.ErrArg: 0, api.ErrLong: api.MaxThreads + 1} {
		if p, calls, e := Asked(nil, make([][]int, threads), loading()); e != want || len(p.Trace) != 0 || len(calls) != 0 {
			t.Errorf("%d threads: %v, %v, %v", threads, p, calls, e)
		}
	}
}

func TestAskedAndCutOff(t *testing.T) {
	p, calls, e := Asked(nil, [][]int{{1, api.MaxTurns}, {2}}, loading())
	if e != api.OK || !slices.Equal(p.Cut, []int{0}) || !slices.Equal(calls, []called{{0, 1, 0, 1, 1}, {1, 2, 1, 2, 4}}) {
		t.Errorf("%v, cut %v: %v", e, p.Cut, calls)
	}
}

func TestEveryAsked(t *testing.T) {
	asks := [][]int{{2, 1}, {0, 1}, {2}}
	for _, turns := range []int{1, 3, api.MaxTurns} {
		var got [][]int
		begun := 0
		for p, calls := range EveryAsked(t, turns, asks, func() func(words int, g api.Gate) int {
			begun++
			return loading()
		}) {
			got = append(got, Order(p.Trace))
			if _, want, _ := Asked(Order(p.Trace), asks, loading()); !slices.Equal(calls, want) {
				t.Errorf("by %v: %v, not %v", Order(p.Trace), calls, want)
			}
		}
		slices.SortFunc(got, slices.Compare)
		if want := ordersOf(turns, stepping(3, 1, 2)); !equal(got, want) || begun < len(got) {
			t.Errorf("of %d turns: %v, begun %d times; not %v", turns, got, begun, want)
		}
	}
}

func TestEveryAskedLeftEarly(t *testing.T) {
	n := 0
	for range EveryAsked(t, api.MaxTurns, [][]int{{2}, {2}}, loading) {
		if n++; n == 3 {
			break
		}
	}
	if n != 3 {
		t.Errorf("%d plays", n)
	}
}
