package once

import (
	"math"
	"slices"
	"testing"

	"patchbay/api"
	"patchbay/plays"
)

// table answers a table, and ends the test where there is none.
func table[T any](t *testing.T, n int, make func(i int) (T, api.Errno)) *Table[T] {
	t.Helper()
	x, e := NewTable(n, make)
	if x == nil || e != api.OK {
		t.Fatalf("NewTable(%d): %v, %v", n, x, e)
	}
	return x
}

// tens is a make that answers its number ten times.
func tens(i int) (int, api.Errno) {
	return 10 * i, api.OK
}

// madeIs ends in an error, if make was called for other numbers.
func madeIs[T any](t *testing.T, x *Table[T], want ...int) {
	t.Helper()
	if got := x.Made(); !slices.Equal(got, want) {
		t.Errorf("Made: %v, not %v", got, want)
	}
}

func TestP41NewTableThatMayNotBe(t *testing.T) {
	for _, n := range []int{0, -1, math.MinInt, api.MaxSlots + 1, 2048, 1 << 32, math.MaxInt} {
		if x, e := NewTable(n, tens); x != nil || e != api.ErrArg {
			t.Errorf("NewTable(%d): %v, %v", n, x, e)
		}
	}
	for _, n := range []int{1, 3, api.MaxSlots, 0, -1, api.MaxSlots + 1, math.MaxInt} {
		if x, e := NewTable[int](n, nil); x != nil || e != api.ErrNil {
			t.Errorf("NewTable(%d, nil): %v, %v", n, x, e)
		}
	}
}

func TestP41NewTableMakesNothing(t *testing.T) {
	for _, n := range []int{1, 2, 3, 1000, api.MaxSlots} {
		x := table(t, n, func(i int) (int, api.Errno) {
			t.Errorf("make of %d is called", i)
			return 0, api.OK
		})
		madeIs(t, x)
	}
}

func TestP42TableExamples(t *testing.T) {
	x := table(t, 3, tens)
	gets(t, "Get(2)", answers(x.Get(nil, 2)), answer{20, api.OK})
	gets(t, "Get(3)", answers(x.Get(nil, 3)), answer{0, api.ErrRange})
	gets(t, "Get(-1)", answers(x.Get(nil, -1)), answer{0, api.ErrRange})
	madeIs(t, x, 2)
}

func TestP42NumbersOfATable(t *testing.T) {
	for _, n := range []int{1, 2, 3, api.MaxSlots} {
		calls := make([]int, n)
		x := table(t, n, func(i int) (int, api.Errno) {
			calls[i]++
			return 10 * i, api.OK
		})
		var want []int
		for i := range n {
			tells(t, "the first Get", func(g api.Gate) { gets(t, "the first Get", answers(x.Get(g, i)), answer{10 * i, api.OK}) }, at(i, api.OpLoad, api.OpCAS, api.OpStore)...)
			want = append(want, i)
			madeIs(t, x, want...)
		}
		for i := range n {
			tells(t, "the second Get", func(g api.Gate) { gets(t, "the second Get", answers(x.Get(g, i)), answer{10 * i, api.OK}) }, at(i, api.OpLoad)...)
			gets(t, "free", answers(x.Get(nil, i)), answer{10 * i, api.OK})
			if calls[i] != 1 {
				t.Errorf("of %d: %d calls of make for %d", n, calls[i], i)
			}
		}
	}
}

func TestP42NumbersThatATableDoesNotHave(t *testing.T) {
	for _, n := range []int{1, 2, 5, api.MaxSlots} {
		x := table(t, n, tens)
		tells(t, "Get", func(g api.Gate) {
			for _, i := range []int{-1, n, n + 1, -n, api.MaxSlots, api.MaxSlots + 1, 1 << 32, math.MinInt, math.MaxInt} {
				gets(t, "Get", answers(x.Get(g, i)), answer{0, api.ErrRange})
				gets(t, "Get, free", answers(x.Get(nil, i)), answer{0, api.ErrRange})
			}
		})
		madeIs(t, x)
		gets(t, "the last one", answers(x.Get(nil, n-1)), answer{10 * (n - 1), api.OK})
	}
}

func TestP42AllWaysOfATable(t *testing.T) {
	ways := allWays()
	for _, first := range []bool{true, false} {
		calls := make([]int, len(ways))
		x := table(t, len(ways), func(i int) (int, api.Errno) { return ways[i].counted(&calls[i])() })
		for i, w := range ways {
			asksAgain(t, w, i, first, func(g api.Gate) (int, api.Errno) { return x.Get(g, i) }, &calls[i])
		}
		for i, w := range ways {
			gets(t, w.name, answers(x.Get(nil, i)), w.want)
		}
		if len(x.Made()) != len(ways) {
			t.Errorf("Made: %v", x.Made())
		}
	}
}

func TestP42TablesThatAreNone(t *testing.T) {
	whole := table(t, 3, tens)
	whole.Get(nil, 1)
	for name, x := range map[string]*Table[int]{"nil": nil, "a zero value": {}, "new": new(Table[int]), "a copy": plays.Copied(whole)} {
		tells(t, name, func(g api.Gate) {
			for _, i := range []int{0, 1, 2, -1, 3, math.MaxInt} {
				gets(t, name, answers(x.Get(g, i)), answer{0, api.ErrNil})
				gets(t, name+", free", answers(x.Get(nil, i)), answer{0, api.ErrNil})
			}
		})
		if got := x.Made(); len(got) != 0 {
			t.Errorf("%s: Made: %v", name, got)
		}
	}
	madeIs(t, whole, 1)
}

func TestP43MadeOfATableRises(t *testing.T) {
	x := table(t, 12, func(i int) (int, api.Errno) {
		if i == 9 {
			panic("no")
		}
		return i, api.Errno(i % 2)
	})
	for _, i := range []int{5, 2, 9, 2, 11, 0, -1, 12, 5} {
		x.Get(nil, i)
	}
	madeIs(t, x, 0, 2, 5, 9, 11)
	// What is answered is new memory.
	clear(x.Made())
	madeIs(t, x, 0, 2, 5, 9, 11)
}
