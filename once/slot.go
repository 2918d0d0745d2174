package once

import (
	"sync"
	"sync/atomic"

	"patchbay/api"
	"patchbay/gates"
)

// The states.
const (
	nothing uint64 = iota // nothing is made
	making                // it is being made
	made                  // it is made
	refused               // make answered an error
	broken                // make panicked
)

// slot is a value that is made once, and its state. What stands behind ended is set by the one who calls make, ahead of its end, and never again.
type slot[T any] struct {
	state  atomic.Uint64
	free   sync.Once      // one free call makes it, or waits for who does; the others wait for that one
	ended  sync.WaitGroup // waits for make's end
	end    uint64         // the state to which make has led
	value  T              // if it is made
	number api.Errno      // if it was refused
}

// newSlots answers n slots of which nothing is made.
func newSlots[T any](n int) []slot[T] {
	slots := make([]slot[T], n)
	for i := range slots {
		slots[i].begin()
	}
	return slots
}

// begin makes a slot ready, once, ahead of all else.
func (s *slot[T]) begin() {
	s.ended.Add(1)
}

// called tells whether make was called.
func (s *slot[T]) called() bool {
	return s.state.Load() != nothing
}

// get answers what make did, and calls it, if nobody else has; the slot's state is that word.
func (s *slot[T]) get(g api.Gate, word int, make func() (T, api.Errno)) (T, api.Errno) {
	if g == nil {
		return s.getFree(make)
	}
	for {
		gates.Tell(g, api.OpLoad, word)
		switch state := s.state.Load(); state {
		case nothing:
			gates.Tell(g, api.OpCAS, word)
			if s.state.CompareAndSwap(nothing, making) {
				s.fill(g, word, make)
				return s.answer(s.end)
			}
		case making:
			// Not to wait: under a gate who makes it may need a turn to come to its end.
		default:
			return s.answer(state)
		}
	}
}

// getFree is get without a gate: it waits for make's end, not for the Store behind it, which a gate may hold up for ever.
func (s *slot[T]) getFree(make func() (T, api.Errno)) (T, api.Errno) {
	s.free.Do(func() {
		if s.state.CompareAndSwap(nothing, making) {
			s.fill(nil, 0, make)
			return
		}
		// Somebody under a gate was ahead of all free calls.
		s.ended.Wait()
	})
	return s.answer(s.end)
}

// fill calls make, and lets the state tell what came of it.
func (s *slot[T]) fill(g api.Gate, word int, make func() (T, api.Errno)) {
	// Deferred: make may also end its thread, without a panic and without coming back.
	defer func() {
		gates.Tell(g, api.OpStore, word)
		s.state.Store(s.end)
	}()
	s.call(make)
}

// call calls make, and keeps what it answers.
func (s *slot[T]) call(make func() (T, api.Errno)) {
	s.end = broken // till it has answered
	defer s.ended.Done()
	// What make panics with does not count: whatever it is, it ends here.
	defer func() { recover() }()
	v, e := make()
	if e == api.OK {
		s.value, s.end = v, made
	} else {
		s.number, s.end = e, refused
	}
}

// answer answers as for a state behind make's end.
func (s *slot[T]) answer(state uint64) (T, api.Errno) {
	var none T
	switch state {
	case made:
		return s.value, api.OK
	case refused:
		return none, s.number
	}
	return none, api.ErrBroken
}
