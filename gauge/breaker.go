package gauge

import (
	"sync/atomic"

	"patchbay/api"
	"patchbay/gates"
)

// The states of a breaker.
const (
	Closed = iota
	Open
	Trying
)

// How a breaker's word is parted: the state in the lowest bits, above these the fails, above these since when.
const (
	stateBits = 2
	failsBits = 21
	sinceFrom = stateBits + failsBits
)

// pack answers the word that tells that.
func pack(state int, fails, since uint64) uint64 {
	return uint64(state) | fails<<stateBits | since<<sinceFrom
}

// unpack answers what a word tells.
func unpack(word uint64) (state int, fails, since uint64) {
	return int(word & (1<<stateBits - 1)), word >> stateBits & (1<<failsBits - 1), word >> sinceFrom
}

// Breaker stops asking what fails.
type Breaker struct {
	made  *Breaker // itself: of one that NewBreaker did not make, or of a copy, it is another
	fails uint64
	wait  uint64
	word  atomic.Uint64
}

// NewBreaker answers a closed breaker: so many fails, one behind the other, open it, and so many ticks later it lets one try.
func NewBreaker(fails, wait uint64) (*Breaker, api.Errno) {
	if fails < 1 || fails > api.MaxLimit || wait < 1 || wait > api.MaxTick {
		return nil, api.ErrArg
	}
	b := &Breaker{fails: fails, wait: wait}
	b.made = b
	return b, api.OK
}

// none tells whether NewBreaker did not make it.
func (b *Breaker) none() bool {
	return b == nil || b.made != b
}

// wrong answers what is refused ahead of all operations.
func (b *Breaker) wrong(now uint64) api.Errno {
	if b.none() {
		return api.ErrNil
	}
	if now > api.MaxTick {
		return api.ErrArg
	}
	return api.OK
}

// load answers the word.
func (b *Breaker) load(g api.Gate) uint64 {
	gates.Tell(g, api.OpLoad, 0)
	return b.word.Load()
}

// swap puts to in the word's place, if it is from, and answers whether it did.
func (b *Breaker) swap(g api.Gate, from, to uint64) bool {
	gates.Tell(g, api.OpCAS, 0)
	return b.word.CompareAndSwap(from, to)
}

// Ask answers whether one may go and ask at the tick now. If the breaker was not closed, that is the one who tries.
func (b *Breaker) Ask(g api.Gate, now uint64) (bool, api.Errno) {
	if e := b.wrong(now); e != api.OK {
		return false, e
	}
	for {
		word := b.load(g)
		state, fails, since := unpack(word)
		if state == Closed {
			return true, api.OK
		}
		if now < since+b.wait {
			return false, api.OK
		}
		if b.swap(g, word, pack(Trying, fails, now)) {
			return true, api.OK
		}
	}
}

// Tell tells the breaker how what was asked went at the tick now.
func (b *Breaker) Tell(g api.Gate, now uint64, good bool) api.Errno {
	if e := b.wrong(now); e != api.OK {
		return e
	}
	for {
		word := b.load(g)
		to := b.behind(word, now, good)
		// Just where the steps say that that is all the word stays what it is.
		if to == word || b.swap(g, word, to) {
			return api.OK
		}
	}
}

// behind answers the word behind a Tell; it is the same one where that changes nothing.
func (b *Breaker) behind(word, now uint64, good bool) uint64 {
	state, fails, _ := unpack(word)
	if state == Open {
		return word
	}
	if good {
		return pack(Closed, 0, 0)
	}
	if state == Closed {
		fails++
		if fails < b.fails {
			return pack(Closed, fails, 0)
		}
	}
	return pack(Open, fails, now)
}

// Get answers the state, how many fails came one behind the other, and since when it is so.
func (b *Breaker) Get(g api.Gate) (state int, fails, since uint64, e api.Errno) {
	if b.none() {
		return 0, 0, 0, api.ErrNil
	}
	state, fails, since = unpack(b.load(g))
	return state, fails, since, api.OK
}
