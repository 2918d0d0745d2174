// Package gates holds what all layers share that tell gates of their operations.
package gates

import (
	"sync/atomic"

	"patchbay/api"
)

// Tell tells the gate of an operation that is about to be done to that word; who is free has no gate to tell.
func Tell(g api.Gate, op api.OpKind, word int) {
	if g != nil {
		g.Step(api.Mark{Op: op, Word: word})
	}
}

// Words are all words of an object, by their numbers. Each operation tells the gate ahead of being done.
type Words []atomic.Uint64

// Load answers the word.
func (w Words) Load(g api.Gate, word int) uint64 {
	Tell(g, api.OpLoad, word)
	return w[word].Load()
}

// Store puts v in the word's place.
func (w Words) Store(g api.Gate, word int, v uint64) {
	Tell(g, api.OpStore, word)
	w[word].Store(v)
}

// CAS puts to in the word's place, if it is from, and answers whether it did.
func (w Words) CAS(g api.Gate, word int, from, to uint64) bool {
	Tell(g, api.OpCAS, word)
	return w[word].CompareAndSwap(from, to)
}
