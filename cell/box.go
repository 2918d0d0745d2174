package cell

import (
	"sync/atomic"

	"patchbay/api"
)

// Box has a value, and how many there were ahead of it.
type Box[T any] struct {
	made *Box[T] // itself: of one that NewBox did not make, or of a copy, it is another
	now  atomic.Pointer[entry[T]]
}

// entry is a value with its number. It is never changed once it stands in a box, so whoever loads it has both whole.
type entry[T any] struct {
	value  T
	number uint64
}

// NewBox answers a box with v.
func NewBox[T any](v T) *Box[T] {
	b := &Box[T]{}
	b.made = b
	b.now.Store(&entry[T]{value: v})
	return b
}

// none tells whether NewBox did not make it.
func (b *Box[T]) none() bool {
	return b == nil || b.made != b
}

// Get answers the value and its number.
func (b *Box[T]) Get(g api.Gate) (T, uint64, api.Errno) {
	if b.none() {
		var v T
		return v, 0, api.ErrNil
	}
	tell(g, api.OpLoad)
	now := b.now.Load()
	return now.value, now.number, api.OK
}

// Put puts v in place of whatever stands there, and answers its number.
func (b *Box[T]) Put(g api.Gate, v T) (uint64, api.Errno) {
	if b.none() {
		return 0, api.ErrNil
	}
again:
	for {
		tell(g, api.OpLoad)
		now := b.now.Load()
		if !b.swap(g, now, v) {
			// Somebody else was ahead of it: its number is taken.
			continue again
		}
		return now.number + 1, api.OK
	}
}

// Try puts v in place of the value of that number, if it still stands there, and answers whether it did.
func (b *Box[T]) Try(g api.Gate, number uint64, v T) (bool, api.Errno) {
	if b.none() {
		return false, api.ErrNil
	}
	tell(g, api.OpLoad)
	now := b.now.Load()
	if now.number != number {
		return false, api.OK
	}
	return b.swap(g, now, v), api.OK
}

// swap puts v, with the next number, in place of what was loaded, if that still stands there.
func (b *Box[T]) swap(g api.Gate, now *entry[T], v T) bool {
	// A new entry each time: as now is held here no other one can stand at its address, so the pointer tells the number.
	next := &entry[T]{value: v, number: now.number + 1}
	tell(g, api.OpCAS)
	return b.now.CompareAndSwap(now, next)
}
