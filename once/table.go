package once

import "patchbay/api"

// Table is values that are made once each, by their numbers.
type Table[T any] struct {
	self  *Table[T] // of one that NewTable did not make, or of a copy, it is another
	make  func(i int) (T, api.Errno)
	slots []slot[T]
}

// NewTable answers a table of n values of which nothing is made.
func NewTable[T any](n int, make func(i int) (T, api.Errno)) (*Table[T], api.Errno) {
	if make == nil {
		return nil, api.ErrNil
	}
	if n < 1 || n > api.MaxSlots {
		return nil, api.ErrArg
	}
	t := &Table[T]{make: make, slots: newSlots[T](n)}
	t.self = t
	return t, api.OK
}

// none tells whether NewTable did not make it.
func (t *Table[T]) none() bool {
	return t == nil || t.self != t
}

// Get answers the i-th value, and makes it, if nobody has asked for it yet.
func (t *Table[T]) Get(g api.Gate, i int) (T, api.Errno) {
	var v T
	if t.none() {
		return v, api.ErrNil
	}
	if i < 0 || i >= len(t.slots) {
		return v, api.ErrRange
	}
	return t.slots[i].get(g, i, func() (T, api.Errno) { return t.make(i) })
}

// Made answers the numbers for which make was called, rising.
func (t *Table[T]) Made() []int {
	if t.none() {
		return nil
	}
	var numbers []int
	for i := range t.slots {
		if t.slots[i].called() {
			numbers = append(numbers, i)
		}
	}
	return numbers
}
