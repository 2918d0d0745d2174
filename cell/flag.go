package cell

import (
	"sync/atomic"

	"patchbay/api"
)

// Flag is set, or not.
type Flag struct {
	made *Flag         // itself: of one that NewFlag did not make, or of a copy, it is another
	set  atomic.Uint64 // 1, or 0
}

// NewFlag answers a flag that is not set.
func NewFlag() *Flag {
	f := &Flag{}
	f.made = f
	return f
}

// none tells whether NewFlag did not make it.
func (f *Flag) none() bool {
	return f == nil || f.made != f
}

// Get answers whether it is set.
func (f *Flag) Get(g api.Gate) (bool, api.Errno) {
	if f.none() {
		return false, api.ErrNil
	}
	tell(g, api.OpLoad)
	return f.set.Load() == 1, api.OK
}

// Set sets it, and answers whether it was not set.
func (f *Flag) Set(g api.Gate) (bool, api.Errno) {
	if f.none() {
		return false, api.ErrNil
	}
	tell(g, api.OpSwap)
	return f.set.Swap(1) == 0, api.OK
}

// Clear makes it one that is not set, and answers whether it was set.
func (f *Flag) Clear(g api.Gate) (bool, api.Errno) {
	if f.none() {
		return false, api.ErrNil
	}
	tell(g, api.OpSwap)
	return f.set.Swap(0) == 1, api.OK
}
