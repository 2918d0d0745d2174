package turn

import (
	"iter"
	"slices"

	"patchbay/api"
)

// Count answers how many orders there are of so many steps of each thread.
func Count(steps ...int) (int, api.Errno) {
	if e := checkSteps(steps); e != api.OK {
		return 0, e
	}
	count, places := 1, 0
	for _, n := range steps {
		places += n
		count *= choices(places, n)
		if count > api.MaxOrders {
			return 0, api.ErrMany
		}
	}
	return count, api.OK
}

// checkSteps tells what is wrong with numbers of steps.
func checkSteps(steps []int) api.Errno {
	for _, n := range steps {
		if n < 0 {
			return api.ErrArg
		}
	}
	if len(steps) > api.MaxThreads {
		return api.ErrLong
	}
	left := api.MaxTurns
	for _, n := range steps {
		// Taken away, not added up: a sum of huge numbers would wrap round.
		if n > left {
			return api.ErrLong
		}
		left -= n
	}
	return api.OK
}

// choices answers how many ways there are to choose n of the places; MaxOrders and one, if they are more.
func choices(places, n int) int {
	n = min(n, places-n)
	ways := 1
	// It never falls on its way up to n: what is too much at once remains so.
	for i := 1; i <= n && ways <= api.MaxOrders; i++ {
		ways = ways * (places - n + i) / i
	}
	return min(ways, api.MaxOrders+1)
}

// Orders tells all orders of so many steps of each thread, rising.
func Orders(steps ...int) iter.Seq[[]int] {
	if _, e := Count(steps...); e != api.OK {
		return func(func([]int) bool) {}
	}
	first := firstOrder(steps)
	return func(yield func([]int) bool) {
		order := slices.Clone(first)
		for yield(slices.Clone(order)) && rise(order) {
		}
	}
}

// firstOrder answers the order in which thread stands behind thread.
func firstOrder(steps []int) []int {
	var order []int
	for k, n := range steps {
		for range n {
			order = append(order, k)
		}
	}
	return order
}

// rise makes the order the next greater one, and tells whether there is one.
func rise(order []int) bool {
	at := len(order) - 2
	for at >= 0 && order[at] >= order[at+1] {
		at--
	}
	if at < 0 {
		return false
	}
	with := len(order) - 1
	for order[with] <= order[at] {
		with--
	}
	order[at], order[with] = order[with], order[at]
	// Behind the place they fell: turned round they are the least ones.
	slices.Reverse(order[at+1:])
	return true
}
