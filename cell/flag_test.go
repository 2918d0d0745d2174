package cell

import (
	"testing"

	"patchbay/api"
	"patchbay/plays"
)

func TestP31FlagExamples(t *testing.T) {
	f := NewFlag()
	for i, x := range []struct {
		call func(g api.Gate) (bool, api.Errno)
		want bool
	}{
		{f.Set, true}, {f.Set, false}, {f.Get, true}, {f.Clear, true}, {f.Clear, false},
		// and round again
		{f.Get, false}, {f.Get, false}, {f.Set, true}, {f.Get, true}, {f.Get, true}, {f.Set, false}, {f.Clear, true}, {f.Get, false},
	} {
		if got, e := x.call(nil); got != x.want || e != api.OK {
			t.Errorf("call %d: %v, %v, not %v", i, got, e, x.want)
		}
	}
}

func TestP31NewFlagIsNotSet(t *testing.T) {
	f, other := NewFlag(), NewFlag()
	other.Set(nil)
	if set, e := f.Get(nil); set || e != api.OK {
		t.Errorf("Get: %v, %v", set, e)
	}
	if was, e := f.Clear(nil); was || e != api.OK {
		t.Errorf("Clear: %v, %v", was, e)
	}
	if was, e := other.Clear(nil); !was || e != api.OK {
		t.Errorf("Clear of the other one: %v, %v", was, e)
	}
}

func TestP31OperationsOfAFlag(t *testing.T) {
	f := NewFlag()
	get, set, clear := func(g api.Gate) { f.Get(g) }, func(g api.Gate) { f.Set(g) }, func(g api.Gate) { f.Clear(g) }
	for range 2 {
		tells(t, "Get of one that is not set", get, api.OpLoad)
		tells(t, "Set", set, api.OpSwap)
		tells(t, "Set of one that is set", set, api.OpSwap)
		tells(t, "Get of one that is set", get, api.OpLoad)
		tells(t, "Clear", clear, api.OpSwap)
		tells(t, "Clear of one that is not set", clear, api.OpSwap)
	}
	tells(t, "NewFlag", func(api.Gate) { NewFlag() })
}

func TestP31FlagsThatAreNone(t *testing.T) {
	whole := NewFlag()
	whole.Set(nil)
	for name, f := range map[string]*Flag{"nil": nil, "a zero value": {}, "new": new(Flag), "a copy": plays.Copied(whole)} {
		tells(t, name, func(g api.Gate) {
			for i, call := range []func(g api.Gate) (bool, api.Errno){f.Get, f.Set, f.Get, f.Clear, f.Set} {
				if got, e := call(g); got || e != api.ErrNil {
					t.Errorf("%s: call %d: %v, %v", name, i, got, e)
				}
			}
		})
	}
	if set, e := whole.Get(nil); !set || e != api.OK {
		t.Errorf("the one that was copied: %v, %v", set, e)
	}
}
