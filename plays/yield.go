package plays

import "patchbay/api"

// Yielding is a gate that lets others run, by the function that it is: in free runs they meet more often then. A test hands in runtime.Gosched, which is not for the program to use.
type Yielding func()

func (y Yielding) Step(api.Mark) { y() }

// Gates answers what tells the gate of a thread of a free run, by their numbers: none in every other run, and none for some of the threads in the others; all the rest let others run by yield.
func Gates(yield func()) func(run, k int) api.Gate {
	return func(run, k int) api.Gate {
		if run%2 == 1 && (run/2+k)%3 != 0 {
			return Yielding(yield)
		}
		return nil
	}
}
