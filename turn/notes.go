package turn

import (
	"slices"

	"patchbay/api"
)

// Notes is a gate that writes down what it is told.
type Notes struct {
	made  *Notes // itself: of one that NewNotes did not make, or of a copy, it is another
	marks []api.Mark
}

// NewNotes answers a gate that holds nobody up.
func NewNotes() *Notes {
	n := &Notes{}
	n.made = n
	return n
}

// Step writes the mark down.
func (n *Notes) Step(m api.Mark) {
	if n == nil || n.made != n {
		return
	}
	n.marks = append(n.marks, m)
}

// Marks answers what it was told, in order.
func (n *Notes) Marks() []api.Mark {
	if n == nil || n.made != n {
		return nil
	}
	return slices.Clone(n.marks)
}
