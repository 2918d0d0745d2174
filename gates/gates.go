// Package gates holds what all layers share that tell gates of their operations.
package gates

import "patchbay/api"

// Tell tells the gate of an operation that is about to be done to that word; who is free has no gate to tell.
func Tell(g api.Gate, op api.OpKind, word int) {
	if g != nil {
		g.Step(api.Mark{Op: op, Word: word})
	}
}
