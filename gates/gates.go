// Package gates holds what all layers share that tell gates of their operations.
package gates

import (
	"sync/atomic"

	"patchbay/api"
)

// Tell tells the gate of an operation that is about to be done to that word; who is free has no gate to tell.
func Tell(g api.Gate, op api.OpKind, word int) {
	if g != nil {
		g.Step(api.Mark{Op: op, Word: word})
	}
}

// As answers a gate that tells g of each operation as one of that word: for an object that is one word of another one.
func As(g api.Gate, word int) api.Gate {
	// A free call is to stay free.
	if g == nil {
		return nil
	}
	return renamed{g, word}
}

// renamed is a gate that tells another one of all operations as of those of one word.
type renamed struct {
	gate api.Gate
	word int
}

func (r renamed) Step(m api.Mark) {
	Tell(r.gate, m.Op, r.word)
}

// Words are all words of an object, by their numbers. Each operation tells the gate ahead of being done.
type Words []atomic.Uint64

// Load answers the word.
func (w Words) Load(g api.Gate, word int) uint64 {
	Tell(g, api.OpLoad, word)
	return w[word].Load()
}

// Store puts v in the word's place.
func (w Words) Store(g api.Gate, word int, v uint64) {
	Tell(g, api.OpStore, word)
	w[word].Store(v)
}

// Add adds n to the word, and answers the sum.
func (w Words) Add(g api.Gate, word int, n uint64) uint64 {
	Tell(g, api.OpAdd, word)
	return w[word].Add(n)
}

// CAS puts to in the word's place, if it is from, and answers whether it did.
func (w Words) CAS(g api.Gate, word int, from, to uint64) bool {
	Tell(g, api.OpCAS, word)
	return w[word].CompareAndSwap(from, to)
}
