package bucket

import "math/bits"

// wide is a number of two words.
type wide struct{ high, low uint64 }

// times multiplies it by n.
func (w *wide) times(n uint64) {
	carry, _ := bits.Mul64(w.low, n)
	w.high *= n
	w.high += carry
	w.low *= n
}

// add adds n to it.
func (w *wide) add(n uint64) {
	_, carry := bits.Add64(w.low, n, 0)
	w.high += carry
	w.low += n
}

// above tells whether it is above n.
func (w *wide) above(n uint64) bool {
	return w.high > 0 || w.low > n
}
