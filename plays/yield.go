package plays

import (
	"runtime"

	"patchbay/api"
)

// Yielding is a gate that lets others run: in free runs they meet more often then.
type Yielding struct{}

func (Yielding) Step(api.Mark) { runtime.Gosched() }

// GateOf answers a gate for a thread of a free run: none in every other run, and none for some of the threads in the others.
func GateOf(run, k int) api.Gate {
	if run%2 == 1 && (run/2+k)%3 != 0 {
		return Yielding{}
	}
	return nil
}
