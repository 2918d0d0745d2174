package plays

import (
	"runtime"
	"sync/atomic"
	"testing"

	"patchbay/api"
)

// TestYielding: who has only one processor, and goes on till the other one has run, ends.
func TestYielding(t *testing.T) {
	defer runtime.GOMAXPROCS(runtime.GOMAXPROCS(1))
	var ran [2]atomic.Bool
	e := Free(2, func(k int) {
		ran[k].Store(true)
		for n := 0; !ran[1-k].Load(); n++ {
			if n == 1000 {
				t.Errorf("%d: the other one has not run", k)
				return
			}
			Yielding{}.Step(api.Mark{})
		}
	})
	if e != api.OK {
		t.Errorf("Free: %v", e)
	}
}

func TestGateOf(t *testing.T) {
	const threads = 6
	for run := range 12 {
		yielding := 0
		for k := range threads {
			switch GateOf(run, k) {
			case nil:
			case Yielding{}:
				yielding++
			default:
				t.Errorf("%d, %d: it is neither", run, k)
			}
		}
		if want := run % 2 * threads * 2 / 3; yielding != want {
			t.Errorf("%d: %d yield, not %d", run, yielding, want)
		}
	}
	if GateOf(1, 0) == GateOf(3, 0) && GateOf(1, 1) == GateOf(3, 1) {
		t.Error("in all runs the same ones yield")
	}
}
