package turn

import (
	"math"
	"math/big"
	"slices"
	"testing"

	"patchbay/api"
)

// slowOrders answers all orders as the chapter's words say them: one thread's number ahead of all orders of what is left.
func slowOrders(steps []int) [][]int {
	var all [][]int
	left := false
	for k, n := range steps {
		if n == 0 {
			continue
		}
		left = true
		rest := slices.Clone(steps)
		rest[k]--
		for _, order := range slowOrders(rest) {
			all = append(all, append([]int{k}, order...))
		}
	}
	if !left {
		return [][]int{nil}
	}
	return all
}

// gone answers what an iterator tells.
func gone(steps ...int) [][]int {
	var all [][]int
	for order := range Orders(steps...) {
		all = append(all, order)
	}
	return all
}

// alike tells whether two lists of orders are the same.
func alike(a, b [][]int) bool {
	return slices.EqualFunc(a, b, slices.Equal[[]int])
}

// fewSteps answers lists of up to four small numbers of steps.
func fewSteps() [][]int {
	lists := [][]int{nil}
	for a := range 4 {
		lists = append(lists, []int{a})
		for b := range 4 {
			lists = append(lists, []int{a, b})
			for c := range 3 {
				lists = append(lists, []int{a, b, c}, []int{c, a, 0, b})
			}
		}
	}
	return lists
}

func TestP23Examples(t *testing.T) {
	for _, x := range []struct {
		steps []int
		want  int
		e     api.Errno
	}{
		{[]int{2, 1}, 3, api.OK},
		{nil, 1, api.OK},
		{[]int{0}, 1, api.OK},
		{[]int{0, 0}, 1, api.OK},
		{make([]int, 16), 1, api.OK},
		{[]int{8, 8}, 12870, api.OK},
		{[]int{7, 7}, 3432, api.OK},
		{[]int{9, 9}, 0, api.ErrMany},
		{[]int{-1}, 0, api.ErrArg},
		{[]int{16385}, 0, api.ErrLong},
	} {
		if n, e := Count(x.steps...); n != x.want || e != x.e {
			t.Errorf("Count(%v): %d, %v, not %d, %v", x.steps, n, e, x.want, x.e)
		}
	}
}

func TestP23Edges(t *testing.T) {
	ones := slices.Repeat([]int{1}, 17)
	for _, x := range []struct {
		steps []int
		want  int
		e     api.Errno
	}{
		// as many turns as there may be, and one more
		{[]int{16384}, 1, api.OK},
		{[]int{0, 16384, 0}, 1, api.OK},
		{[]int{16384, 1}, 0, api.ErrLong},
		{[]int{8192, 8193}, 0, api.ErrLong},
		{[]int{math.MaxInt}, 0, api.ErrLong},
		{[]int{math.MaxInt, math.MaxInt, 2}, 0, api.ErrLong},
		{[]int{1, math.MaxInt}, 0, api.ErrLong},
		// as many orders, and one more
		{[]int{16383, 1}, 16384, api.OK},
		{[]int{1, 16383}, 16384, api.OK},
		{[]int{179, 2}, 16290, api.OK},
		{[]int{2, 180}, 0, api.ErrMany},
		{[]int{2, 2, 2, 2, 1}, 0, api.ErrMany},
		{[]int{2, 2, 2, 2}, 2520, api.OK},
		{[]int{2, 7, 0, 3}, 7920, api.OK},
		{[]int{8192, 8192}, 0, api.ErrMany},
		{[]int{16382, 1, 1}, 0, api.ErrMany},
		{ones[:7], 5040, api.OK},
		{ones[:8], 0, api.ErrMany},
		{ones[:16], 0, api.ErrMany},
		{slices.Repeat([]int{1024}, 16), 0, api.ErrMany},
		// as many threads, and one more
		{append(make([]int, 15), 3), 1, api.OK},
		{make([]int, 17), 0, api.ErrLong},
		{ones, 0, api.ErrLong},
		// which of two errors comes first
		{append(slices.Clone(ones), -1), 0, api.ErrArg},
		{[]int{16385, -1}, 0, api.ErrArg},
		{[]int{math.MaxInt, math.MaxInt, math.MinInt}, 0, api.ErrArg},
		{[]int{9, 9, -1}, 0, api.ErrArg},
		{[]int{9, 9, 16384}, 0, api.ErrLong},
		{[]int{5, -3}, 0, api.ErrArg},
	} {
		if n, e := Count(x.steps...); n != x.want || e != x.e {
			t.Errorf("Count(%v): %d, %v, not %d, %v", x.steps, n, e, x.want, x.e)
		}
	}
}

func TestP23CountsWhatThereIs(t *testing.T) {
	for _, steps := range fewSteps() {
		if n, e := Count(steps...); n != len(slowOrders(steps)) || e != api.OK {
			t.Errorf("Count(%v): %d, %v, not %d", steps, n, e, len(slowOrders(steps)))
		}
	}
}

func TestP23CountsOfAllSizes(t *testing.T) {
	// Beside numbers of any size: what is far too much must not wrap round to what fits.
	most := big.NewInt(api.MaxOrders)
	for a := range 300 {
		for _, b := range []int{1, 2, 3, 5, a, 2 * a, 40 * a} {
			want := new(big.Int).Binomial(int64(a+b), int64(b))
			n, e := Count(a, b)
			if want.Cmp(most) > 0 && (n != 0 || e != api.ErrMany) {
				t.Errorf("Count(%d, %d): %d, %v, not too many", a, b, n, e)
			}
			if want.Cmp(most) <= 0 && (int64(n) != want.Int64() || e != api.OK) {
				t.Errorf("Count(%d, %d): %d, %v, not %v", a, b, n, e, want)
			}
		}
	}
}

func TestP24Examples(t *testing.T) {
	if got := gone(2, 1); !alike(got, [][]int{{0, 0, 1}, {0, 1, 0}, {1, 0, 0}}) {
		t.Errorf("of 2, 1: %v", got)
	}
	if got := gone(1, 0, 1); !alike(got, [][]int{{0, 2}, {2, 0}}) {
		t.Errorf("of 1, 0, 1: %v", got)
	}
	for _, steps := range [][]int{nil, {0}, {0, 0}} {
		if got := gone(steps...); len(got) != 1 || len(got[0]) != 0 {
			t.Errorf("of %v: %v", steps, got)
		}
	}
}

func TestP24AllOrdersRising(t *testing.T) {
	for _, steps := range fewSteps() {
		if got := gone(steps...); !alike(got, slowOrders(steps)) {
			t.Errorf("of %v: %v", steps, got)
		}
	}
	got := gone(8, 8)
	if len(got) != 12870 || !slices.IsSortedFunc(got, slices.Compare[[]int]) {
		t.Errorf("of 8, 8: %d orders", len(got))
	}
	for i := 1; i < len(got); i++ {
		if slices.Equal(got[i-1], got[i]) {
			t.Fatalf("twice: %v", got[i])
		}
	}
}

func TestP24AsLongAndAsManyAsThereMayBe(t *testing.T) {
	n := 0
	for order := range Orders(16383, 1) {
		// The one of the second thread goes from the end to the beginning.
		if len(order) != 16384 || order[16383-n] != 1 {
			t.Fatalf("order %d of %d numbers", n, len(order))
		}
		n++
	}
	if n != 16384 {
		t.Errorf("%d orders", n)
	}
	if got := gone(16384); len(got) != 1 || len(got[0]) != 16384 {
		t.Errorf("of one thread: %d orders", len(got))
	}
}

func TestP24NothingBesideErrors(t *testing.T) {
	for _, steps := range [][]int{{9, 9}, {-1}, {2, -1}, {16385}, {math.MaxInt, math.MaxInt}, make([]int, 17), {math.MinInt}} {
		for order := range Orders(steps...) {
			t.Fatalf("of %v: %v", steps, order)
		}
	}
}

func TestP24LeftEarlyAndGoneThroughAgain(t *testing.T) {
	orders := Orders(2, 2)
	whole := slowOrders([]int{2, 2})
	for stop := range len(whole) + 1 {
		var got [][]int
		for order := range orders {
			if len(got) == stop {
				break
			}
			got = append(got, order)
		}
		if !alike(got, whole[:stop]) {
			t.Errorf("left behind %d: %v", stop, got)
		}
	}
	pairs := 0
	for a := range orders {
		for b := range orders {
			if len(a) == 4 && len(b) == 4 {
				pairs++
			}
		}
	}
	if pairs != len(whole)*len(whole) {
		t.Errorf("one within the other: %d pairs", pairs)
	}
}

func TestP24WhatIsToldIsNew(t *testing.T) {
	whole := slowOrders([]int{2, 1, 1})
	orders := Orders(2, 1, 1)
	for range 2 {
		i := 0
		for order := range orders {
			if !slices.Equal(order, whole[i]) {
				t.Fatalf("order %d: %v, not %v", i, order, whole[i])
			}
			for k := range order {
				order[k] = 9
			}
			_ = append(order[:1], 8, 8, 8)
			i++
		}
	}
	if got := gone(2, 1, 1); !alike(got, whole) {
		t.Errorf("two answers share: %v", got)
	}
}

func TestP24StepsAreNotChangedAndNotKept(t *testing.T) {
	room := []int{2, 1, 5}
	orders := Orders(room[:2]...)
	want := slowOrders([]int{2, 1})
	check := func(when string) {
		var got [][]int
		for order := range orders {
			got = append(got, order)
		}
		if !alike(got, want) {
			t.Errorf("%s: %v", when, got)
		}
	}
	check("at first")
	if !slices.Equal(room, []int{2, 1, 5}) {
		t.Errorf("the steps: %v", room)
	}
	room[0], room[1] = -1, 7
	check("behind a change")
}
