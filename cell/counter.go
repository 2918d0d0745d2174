package cell

import (
	"sync/atomic"

	"patchbay/api"
)

// Counter is a number that many count with.
type Counter struct {
	made   *Counter // itself: of one that NewCounter did not make, or of a copy, it is another
	number atomic.Uint64
}

// NewCounter answers a counter with v.
func NewCounter(v uint64) *Counter {
	c := &Counter{}
	c.made = c
	c.number.Store(v)
	return c
}

// none tells whether NewCounter did not make it.
func (c *Counter) none() bool {
	return c == nil || c.made != c
}

// Get answers the number.
func (c *Counter) Get(g api.Gate) (uint64, api.Errno) {
	if c.none() {
		return 0, api.ErrNil
	}
	tell(g, api.OpLoad)
	return c.number.Load(), api.OK
}

// Add adds n, and answers the sum.
func (c *Counter) Add(g api.Gate, n uint64) (uint64, api.Errno) {
	if c.none() {
		return 0, api.ErrNil
	}
	tell(g, api.OpAdd)
	return c.number.Add(n), api.OK
}

// Up adds n, if the sum is not above most; it answers the number, and whether it did.
func (c *Counter) Up(g api.Gate, n, most uint64) (uint64, bool, api.Errno) {
	if c.none() {
		return 0, false, api.ErrNil
	}
	v, ok := c.change(g, func(v uint64) (uint64, bool) {
		// Not v+n <= most: a great sum would wrap round.
		return v + n, n <= most && v <= most-n
	})
	return v, ok, api.OK
}

// Down takes n away, if there is as much; it answers the number, and whether it did.
func (c *Counter) Down(g api.Gate, n uint64) (uint64, bool, api.Errno) {
	if c.none() {
		return 0, false, api.ErrNil
	}
	v, ok := c.change(g, func(v uint64) (uint64, bool) { return v - n, v >= n })
	return v, ok, api.OK
}

// Max puts v in the number's place, if it is above it, and answers whether it did.
func (c *Counter) Max(g api.Gate, v uint64) (bool, api.Errno) {
	if c.none() {
		return false, api.ErrNil
	}
	_, ok := c.change(g, func(x uint64) (uint64, bool) { return v, v > x })
	return ok, api.OK
}

// change puts what next answers in the number's place, and answers it; where next says false, the number as it is.
func (c *Counter) change(g api.Gate, next func(v uint64) (uint64, bool)) (uint64, bool) {
again:
	for {
		tell(g, api.OpLoad)
		v := c.number.Load()
		to, ok := next(v)
		if !ok {
			return v, false
		}
		tell(g, api.OpCAS)
		if !c.number.CompareAndSwap(v, to) {
			// Somebody else changed it meanwhile: what next said does not hold any more.
			continue again
		}
		return to, true
	}
}
