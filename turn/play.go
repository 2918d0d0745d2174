package turn

import (
	"sync"

	"patchbay/api"
)

// play is a play that is under way.
type play struct {
	threads []*thread
	trace   []api.Turned
	all     sync.WaitGroup
}

// begin gives each thread its first turn.
func (p *play) begin(bodies []func(g api.Gate)) {
	p.all.Add(len(bodies))
	for _, body := range bodies {
		t := newThread()
		p.threads = append(p.threads, t)
		go t.live(body, &p.all)
		t.wait()
	}
}

// turn gives the thread k a turn, and tells whether there was one to be had.
func (p *play) turn(k int) bool {
	if k < 0 || k >= len(p.threads) || p.threads[k].over {
		return false
	}
	t := p.threads[k]
	p.trace = append(p.trace, api.Turned{Thread: k, Mark: t.mark})
	t.turns <- struct{}{}
	t.wait()
	return true
}

// goRound gives turns round and round, till there are none to be had.
func (p *play) goRound() {
	for had := true; had; {
		had = false
		for k := range p.threads {
			if len(p.trace) == api.MaxTurns {
				return
			}
			if p.turn(k) {
				had = true
			}
		}
	}
}

// cutRest cuts off what has not ended, and tells who that was.
func (p *play) cutRest() []int {
	var cut []int
	for k, t := range p.threads {
		if t.over {
			continue
		}
		cut = append(cut, k)
		close(t.cut)
		// One after the other, so that deferred calls meet nobody else's. Each of their steps is told, too, ahead of its panic.
		for !t.over {
			t.wait()
		}
	}
	return cut
}

// thread is one thread of a play, and the gate that it is handed.
type thread struct {
	steps chan api.Mark // tells the play of a step, and so hands the turn back
	turns chan struct{} // hands the thread a turn
	cut   chan struct{} // closed when the thread is cut off
	ended chan struct{} // closed when it has ended
	on    bool          // the thread's own: it has its turn
	mark  api.Mark      // the play's own: the step that is not done yet
	over  bool          // the play's own: there is none, it has ended
}

// cutOff is what a thread that is cut off panics with.
type cutOff struct{}

func newThread() *thread {
	return &thread{
		steps: make(chan api.Mark),
		turns: make(chan struct{}),
		cut:   make(chan struct{}),
		ended: make(chan struct{}),
		on:    true,
	}
}

// live is the thread from its beginning to its end.
func (t *thread) live(body func(g api.Gate), all *sync.WaitGroup) {
	// Deferred: a thread may also end without a panic and without coming back.
	defer all.Done()
	defer close(t.ended)
	defer func() { t.on = false }()
	run(body, t)
}

// wait waits till the thread has come to its next step, or to its end.
func (t *thread) wait() {
	select {
	case t.mark = <-t.steps:
	case <-t.ended:
		t.over = true
	}
}

// Step holds the thread up till its next turn.
func (t *thread) Step(m api.Mark) {
	// A thread is held up by its own gate alone: whoever asks while it stands still, or has ended, is another one.
	if !t.on {
		return
	}
	t.on = false
	t.steps <- m
	select {
	case <-t.turns:
		t.on = true
	case <-t.cut:
		t.on = true // its deferred calls are to find it cut off, too
		panic(cutOff{})
	}
}
