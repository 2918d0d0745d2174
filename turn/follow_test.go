package turn

import (
	"math/rand"
	"slices"
	"sync"
	"testing"

	"patchbay/api"
)

// someOrder answers n numbers, some of them no thread's.
func someOrder(r *rand.Rand, n, threads int) []int {
	var order []int
	for range n {
		order = append(order, r.Intn(threads+3)-1)
	}
	return order
}

// wandering answers threads that share a number: which steps they have hangs on what the others did.
func wandering(n int) []func(g api.Gate) {
	sum := 1
	var threads []func(g api.Gate)
	for k := range n {
		threads = append(threads, func(g api.Gate) {
			for i := 0; i < 4+sum%5; i++ {
				g.Step(at(sum))
				sum = (sum*31 + k + i) % 1009
			}
		})
	}
	return threads
}

func TestP26PlayedAgain(t *testing.T) {
	r := rand.New(rand.NewSource(26))
	for range 200 {
		n := 1 + r.Intn(api.MaxThreads)
		order := someOrder(r, r.Intn(60), n)
		p := played(t, order, wandering(n)...)
		if q := played(t, order, wandering(n)...); !same(p, q) {
			t.Fatalf("by %v:%s, then%s", order, told(p), told(q))
		}
		if q := played(t, threadsOf(p), wandering(n)...); !same(p, q) {
			t.Fatalf("by its own trace:%s, then%s", told(p), told(q))
		}
	}
}

func TestP26PlaysBesidePlays(t *testing.T) {
	want := played(t, []int{2, 0, 1}, wandering(5)...)
	var all sync.WaitGroup
	var got [8]api.Played
	for i := range got {
		all.Go(func() {
			for range 20 {
				got[i], _ = Play([]int{2, 0, 1}, wandering(5)...)
			}
		})
	}
	all.Wait()
	for _, p := range got {
		if !same(p, want) {
			t.Errorf("%s, not%s", told(p), told(want))
		}
	}
}

func TestP26ATraceOfThoseCutOff(t *testing.T) {
	threads := []func(g api.Gate){stepping(1, 2), forEver, nothing, forEver}
	p := played(t, []int{3, 1, 1, 3, 9}, threads...)
	if q := played(t, threadsOf(p), threads...); !same(p, q) || len(q.Cut) != 2 {
		t.Errorf("%d turns, cut %v; then %d turns, cut %v", len(p.Trace), p.Cut, len(q.Trace), q.Cut)
	}
}

func TestP26NumbersThatCountForNothing(t *testing.T) {
	r := rand.New(rand.NewSource(261))
	steps := []int{3, 0, 5, 1}
	for range 200 {
		order := someOrder(r, r.Intn(30), len(steps))
		left := slices.Clone(steps)
		var counts []int
		for _, k := range order {
			if k >= 0 && k < len(left) && left[k] > 0 {
				left[k]--
				counts = append(counts, k)
			}
		}
		var threads []func(g api.Gate)
		for _, n := range steps {
			threads = append(threads, stepping(make([]int, n)...))
		}
		p, q := played(t, order, threads...), played(t, counts, threads...)
		if !same(p, q) || !slices.Equal(threadsOf(p)[:len(counts)], counts) {
			t.Fatalf("by %v:%s, by %v:%s", order, told(p), counts, told(q))
		}
	}
}

func TestP26EachThreadsMarksAreItsSteps(t *testing.T) {
	r := rand.New(rand.NewSource(262))
	for range 100 {
		var words [][]int
		var threads []func(g api.Gate)
		for range 1 + r.Intn(6) {
			list := someOrder(r, r.Intn(9), 50)
			words = append(words, list)
			threads = append(threads, stepping(list...))
		}
		p := played(t, someOrder(r, 20, len(words)), threads...)
		for k, list := range words {
			var got []int
			for _, x := range p.Trace {
				if x.Thread == k {
					got = append(got, x.Mark.Word)
				}
			}
			if !slices.Equal(got, list) {
				t.Fatalf("thread %d: %v, not %v", k, got, list)
			}
		}
	}
}

func TestP26AllOrdersHaveAllTraces(t *testing.T) {
	for _, steps := range [][]int{{4}, {2, 1}, {3, 3}, {3, 0, 2, 2}, {1, 1, 1, 1, 1}} {
		n := 0
		for order := range Orders(steps...) {
			var threads []func(g api.Gate)
			sum := 0
			for k, s := range steps {
				threads = append(threads, func(g api.Gate) {
					for range s {
						g.Step(at(sum))
						sum = sum*7%1009 + k
					}
				})
			}
			p := played(t, order, threads...)
			// As a play's turns stand just as its order says, all orders make all traces, each once.
			if !slices.Equal(threadsOf(p), order) || len(p.Cut) != 0 {
				t.Fatalf("by %v:%s", order, told(p))
			}
			n++
		}
		if want := len(slowOrders(steps)); n != want {
			t.Errorf("of %v: %d plays, not %d", steps, n, want)
		}
	}
}
