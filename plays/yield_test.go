package plays

import (
	"runtime"
	"sync/atomic"
	"testing"

	"patchbay/api"
)

// TestYielding: who has only one processor, and goes on till the other one has run, ends.
func TestYielding(t *testing.T) {
	defer runtime.GOMAXPROCS(runtime.GOMAXPROCS(1))
	var ran [2]atomic.Bool
	e := Free(2, func(k int) {
		ran[k].Store(true)
		for n := 0; !ran[1-k].Load(); n++ {
			if n == 1000 {
				t.Errorf("%d: the other one has not run", k)
				return
			}
			Yielding(runtime.Gosched).Step(api.Mark{})
		}
	})
	if e != api.OK {
		t.Errorf("Free: %v", e)
	}
}

func TestGates(t *testing.T) {
	const threads = 6
	yields := 0
	gateOf := Gates(func() { yields++ })
	var nones [12]int // which threads have none, as bits
	for run := range nones {
		yielding := 0
		for k := range threads {
			switch g := gateOf(run, k).(type) {
			case nil:
				nones[run] |= 1 << k
			case Yielding:
				yielding++
				ahead := yields
				if g.Step(Load(k)); yields != ahead+1 {
					t.Errorf("%d, %d: a step yields %d times", run, k, yields-ahead)
				}
			default:
				t.Errorf("%d, %d: it is neither", run, k)
			}
		}
		if want := run % 2 * threads * 2 / 3; yielding != want {
			t.Errorf("%d: %d yield, not %d", run, yielding, want)
		}
	}
	if nones[1] == nones[3] {
		t.Error("in all runs the same ones yield")
	}
}
