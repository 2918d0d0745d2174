package tally

import (
	"math/bits"

	"patchbay/api"
	"patchbay/cell"
	"patchbay/gates"
)

// The words: the counts, by how many bits the numbers have; behind them these.
const (
	theSum = api.Buckets + iota
	theGreatest
)

// Hist is numbers that are counted by their bits.
type Hist struct {
	made     *Hist       // itself: of one that NewHist did not make, or of a copy, it is another
	sums     gates.Words // all words but the last one: those to which all add, whatever stands there
	greatest *cell.Counter
}

// NewHist answers a histogram of no numbers.
func NewHist() *Hist {
	h := &Hist{sums: make(gates.Words, theGreatest), greatest: cell.NewCounter(0)}
	h.made = h
	return h
}

// none tells whether NewHist did not make it.
func (h *Hist) none() bool {
	return h == nil || h.made != h
}

// Add counts a number.
func (h *Hist) Add(g api.Gate, v uint64) api.Errno {
	if h.none() {
		return api.ErrNil
	}
	h.sums.Add(g, bits.Len64(v), 1)
	h.sums.Add(g, theSum, v)
	h.greatest.Max(gates.As(g, theGreatest), v)
	return api.OK
}

// Get answers what came; what comes meanwhile may stand in some of its parts, and be missing in the others.
func (h *Hist) Get(g api.Gate) (api.Hist, api.Errno) {
	if h.none() {
		return api.Hist{}, api.ErrNil
	}
	var got api.Hist
	for k := range got.Counts {
		got.Counts[k] = h.sums.Load(g, k)
	}
	got.Sum = h.sums.Load(g, theSum)
	got.Max, _ = h.greatest.Get(gates.As(g, theGreatest))
	return got, api.OK
}
