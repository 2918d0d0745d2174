package plays

import (
	"fmt"
	"slices"
	"sync"
	"sync/atomic"
	"testing"

	"patchbay/api"
	"patchbay/turn"
)

// stepping answers threads with so many steps each.
func stepping(steps ...int) func() []func(g api.Gate) {
	return func() []func(g api.Gate) {
		var threads []func(g api.Gate)
		for _, n := range steps {
			threads = append(threads, func(g api.Gate) {
				for i := range n {
					g.Step(Load(i))
				}
			})
		}
		return threads
	}
}

// ordersOf answers the orders of all plays, rising.
func ordersOf(turns int, begin func() []func(g api.Gate)) [][]int {
	var orders [][]int
	for p := range Every(turns, begin) {
		orders = append(orders, Order(p.Trace))
	}
	slices.SortFunc(orders, slices.Compare)
	return orders
}

// equal tells whether two lists of orders are the same.
func equal(a, b [][]int) bool {
	return slices.EqualFunc(a, b, slices.Equal)
}

func TestEveryTellsAllOrdersOnce(t *testing.T) {
	for _, steps := range [][]int{{3, 2, 2}, {1}, {0}, {4, 4}, {0, 2, 0, 1}, {1, 1, 1, 1, 1}, {5, 1, 0}} {
		got := ordersOf(api.MaxTurns, stepping(steps...))
		if want := slices.Collect(turn.Orders(steps...)); !equal(got, want) {
			t.Errorf("of %v: %v, not %v", steps, got, want)
		}
	}
}

func TestEveryTellsAllFirstTurnsOnce(t *testing.T) {
	for turns := range 9 {
		var got, want [][]int
		for _, order := range ordersOf(turns, stepping(3, 2, 2)) {
			got = append(got, order[:min(turns, len(order))])
		}
		for order := range turn.Orders(3, 2, 2) {
			want = append(want, order[:min(turns, len(order))])
		}
		// Orders that differ behind the first turns alone are one play.
		if want = slices.CompactFunc(want, slices.Equal); !equal(got, want) {
			t.Errorf("of %d turns: %v, not %v", turns, got, want)
		}
	}
}

func TestEveryOfThreadsThatHangOnEachOther(t *testing.T) {
	// The second one goes on till the first one has ended.
	ended := false
	begin := func() []func(g api.Gate) {
		ended = false
		return []func(g api.Gate){
			func(g api.Gate) { g.Step(Load(0)); g.Step(Load(0)); ended = true },
			func(g api.Gate) {
				for !ended {
					g.Step(Load(1))
				}
			},
		}
	}
	seen := map[int]bool{}
	for p := range Every(4, begin) {
		seen[len(p.Trace)] = true
		if len(p.Cut) != 0 {
			t.Errorf("by %v: cut %v", Order(p.Trace), p.Cut)
		}
	}
	for n := 3; n <= 7; n++ {
		if !seen[n] {
			t.Errorf("no play of %d turns", n)
		}
	}
}

func TestEveryLeftEarlyAndOfNone(t *testing.T) {
	for most := 1; most < 7; most++ {
		n := 0
		for range Every(api.MaxTurns, stepping(2, 2)) {
			if n++; n == most {
				break
			}
		}
		if n != most {
			t.Errorf("%d plays, not %d", n, most)
		}
	}
	for range Every(9, func() []func(g api.Gate) { return nil }) {
		t.Error("a play of no threads")
	}
}

// telling notes what a test is told; its end is a panic.
type telling struct{ texts []string }

func (x *telling) Helper() {}

func (x *telling) Errorf(text string, about ...any) {
	x.texts = append(x.texts, fmt.Sprintf(text, about...))
}

func (x *telling) Fatalf(text string, about ...any) {
	x.Errorf(text, about...)
	panic("ended")
}

// ending tells what a test is told, and whether it ends it.
func ending(do func(t Test)) (texts []string, ended bool) {
	x := &telling{}
	defer func() { texts, ended = x.texts, recover() != nil }()
	do(x)
	return
}

// wholeOf answers how many plays Whole tells, and what a test is told then.
func wholeOf(turns int, begin func() []func(g api.Gate), most int) (n int, texts []string, ended bool) {
	texts, ended = ending(func(t Test) {
		for range Whole(t, turns, begin) {
			if n++; n == most {
				break
			}
		}
	})
	return
}

func TestWhole(t *testing.T) {
	long := func() []func(g api.Gate) {
		return append(stepping(1)(), func(g api.Gate) {
			for range api.MaxTurns {
				g.Step(Load(0))
			}
		})
	}
	for i, x := range []struct {
		turns int
		begin func() []func(g api.Gate)
		most  int
		n     int
		texts int
		ended bool
	}{
		{api.MaxTurns, stepping(2, 2), 99, 6, 0, false},
		{2, stepping(2, 2), 99, 4, 0, false},
		{api.MaxTurns, stepping(1, 1), 99, 2, 0, false},
		{api.MaxTurns, stepping(1, 1), 1, 1, 0, false}, // left early
		{api.MaxTurns, stepping(3), 99, 1, 1, false},
		{api.MaxTurns, stepping(), 99, 0, 1, false},
		{api.MaxTurns, long, 99, 0, 1, true},
	} {
		if n, texts, ended := wholeOf(x.turns, x.begin, x.most); n != x.n || len(texts) != x.texts || ended != x.ended {
			t.Errorf("%d: %d plays, told %q, ended: %v", i, n, texts, ended)
		}
	}
}

func TestTrace(t *testing.T) {
	want, _ := turn.Play([]int{1, 0, 1, 0}, stepping(2, 2)()...)
	if got := Trace([]int{1, 0, 1, 0}, Load(0), Load(0), Load(1), Load(1)); !slices.Equal(got, want.Trace) || len(Trace(nil)) != 0 {
		t.Errorf("%v, not %v", got, want.Trace)
	}
}

func TestFree(t *testing.T) {
	for _, n := range []int{1, 2, api.MaxThreads} {
		// Each waits for all others: so they run at a time.
		var ran [api.MaxThreads]bool
		var all sync.WaitGroup
		all.Add(n)
		e := Free(n, func(k int) {
			ran[k] = true
			all.Done()
			all.Wait()
		})
		if e != api.OK || slices.Contains(ran[:n], false) {
			t.Errorf("Free of %d: %v, %v", n, e, ran)
		}
	}
	for n, want := range map[int]api.Errno{0: api.ErrArg, api.MaxThreads + 1: api.ErrLong} {
		if e := Free(n, func(k int) { t.Errorf("%d runs", k) }); e != want {
			t.Errorf("Free of %d: %v, not %v", n, e, want)
		}
	}
}

func TestFreely(t *testing.T) {
	for n, ends := range map[int]bool{0: true, 1: false, 3: false, api.MaxThreads: false, api.MaxThreads + 1: true} {
		var ran atomic.Int64
		texts, ended := ending(func(t Test) { Freely(t, n, func(k int) { ran.Add(1 << k) }) })
		want := int64(1)<<n - 1
		if ends {
			want = 0
		}
		if ended != ends || (len(texts) == 1) != ends || ran.Load() != want {
			t.Errorf("Freely of %d: told %q, ended: %v, %b ran", n, texts, ended, ran.Load())
		}
	}
}

func TestTold(t *testing.T) {
	marks := Told(func(g api.Gate) { stepping(3)()[0](g) })
	if !slices.Equal(marks, []api.Mark{Load(0), Load(1), Load(2)}) {
		t.Errorf("%v", marks)
	}
}

func TestWatched(t *testing.T) {
	begun, looks := 0, []int(nil)
	thread := func(g api.Gate) {
		for range 2 {
			g.Step(Load(0))
			begun++
		}
	}
	p, e := turn.Play([]int{0, 1, 1, 0}, Watched(func() { looks = append(looks, begun) }, thread, thread)...)
	if e != api.OK || !slices.Equal(Order(p.Trace), []int{0, 1, 1, 0}) || !slices.Equal(looks, []int{0, 0, 1, 2, 3, 4}) {
		t.Errorf("%v, %v: looks %v", e, p, looks)
	}
}

func TestCutOff(t *testing.T) {
	for ops := range 6 {
		begun := 0
		cut := CutOff(ops, func(g api.Gate) {
			for i := range 4 {
				g.Step(Load(i))
				begun++
			}
		})
		if cut != (ops < 4) || begun != min(ops, 4) {
			t.Errorf("behind %d: %v, %d operations", ops, cut, begun)
		}
	}
}

func TestMarks(t *testing.T) {
	for _, word := range []int{0, 1, 7, -1, 1 << 40} {
		got := []api.Mark{Load(word), Store(word), Add(word), CAS(word)}
		if want := []api.Mark{{Op: api.OpLoad, Word: word}, {Op: api.OpStore, Word: word}, {Op: api.OpAdd, Word: word}, {Op: api.OpCAS, Word: word}}; !slices.Equal(got, want) {
			t.Errorf("%v, not %v", got, want)
		}
	}
}

func TestDrawn(t *testing.T) {
	var asked []int
	draw := func(below int) int {
		asked = append(asked, below)
		return len(asked) % below
	}
	// Thread 1, and two more turns of it; thread 0, and none.
	if got := Drawn(draw, 4, 3, 4); !slices.Equal(got, []int{1, 1, 1, 0}) || !slices.Equal(asked, []int{3, 4, 3, 4}) {
		t.Errorf("%v; drawn below %v", got, asked)
	}
	asked = nil
	if got := Drawn(draw, 2, 2, 2); !slices.Equal(got, []int{1, 1}) {
		t.Errorf("%v; drawn below %v", got, asked)
	}
	if got := Drawn(draw, 0, 2, 2); len(got) != 0 {
		t.Errorf("no turns: %v", got)
	}
}

func TestCopied(t *testing.T) {
	type pair struct {
		n    int
		list []int
	}
	a := &pair{7, []int{8}}
	b := Copied(a)
	if b == a || b.n != 7 || &b.list[0] != &a.list[0] {
		t.Errorf("%v, %v", a, b)
	}
	b.n = 9
	if a.n != 7 {
		t.Errorf("it is no copy: %v", a)
	}
}
