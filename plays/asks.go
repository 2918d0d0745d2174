package plays

import (
	"iter"

	"patchbay/api"
	"patchbay/turn"
)

// Done is a call of a play that has answered: whose it is, what was asked, what it answered; of all operations of the play, from 1 on, the numbers of its first and of its last one (0: it had none).
type Done[Q, A any] struct {
	Thread   int
	Ask      Q
	Answer   A
	From, To int
}

// Asked plays by that order threads that ask so, each one thing after the other; it answers the play, and the calls in the order in which they answered. One that was cut off has not answered.
func Asked[Q, A any](order []int, asks [][]Q, of func(q Q, g api.Gate) A) (api.Played, []Done[Q, A], api.Errno) {
	calls, threads := asking(asks, of)
	p, e := turn.Play(order, threads...)
	return p, *calls, e
}

// EveryAsked tells the plays that Whole tells of threads that ask so, and their calls as Asked does. What is asked begin makes anew for each play.
func EveryAsked[Q, A any](t Test, turns int, asks [][]Q, begin func() func(q Q, g api.Gate) A) iter.Seq2[api.Played, []Done[Q, A]] {
	return func(yield func(api.Played, []Done[Q, A]) bool) {
		t.Helper()
		var calls *[]Done[Q, A]
		for p := range Whole(t, turns, func() (threads []func(g api.Gate)) {
			calls, threads = asking(asks, begin())
			return threads
		}) {
			if !yield(p, *calls) {
				return
			}
		}
	}
}

// asking answers the threads that ask so, and the list of the calls that have answered.
func asking[Q, A any](asks [][]Q, of func(q Q, g api.Gate) A) (*[]Done[Q, A], []func(g api.Gate)) {
	all, calls := 0, &[]Done[Q, A]{}
	var threads []func(g api.Gate)
	for k, list := range asks {
		threads = append(threads, func(g api.Gate) {
			for _, q := range list {
				n := &noting{gate: g, all: &all}
				got := of(q, n)
				*calls = append(*calls, Done[Q, A]{k, q, got, n.from, n.to})
			}
		})
	}
	return calls, threads
}

// noting is a gate that counts all operations of a play, and notes which were its call's first and last one.
type noting struct {
	gate     api.Gate
	all      *int
	from, to int
}

func (n *noting) Step(m api.Mark) {
	n.gate.Step(m)
	*n.all++
	if n.from == 0 {
		n.from = *n.all
	}
	n.to = *n.all
}
