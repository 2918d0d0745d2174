package tally

import "patchbay/api"

// What Below can be asked: into how many parts the numbers may be parted, and how many numbers there may be. A part of all numbers is then far below what a word holds.
const (
	mostParts   = 1 << 20
	mostNumbers = 1 << 40
)

// Join answers what came to all of them together.
func Join(l ...api.Hist) api.Hist {
	var all api.Hist
	for _, h := range l {
		for k, n := range h.Counts {
			all.Counts[k] += n
		}
		all.Sum += h.Sum
		all.Max = max(all.Max, h.Max)
	}
	return all
}

// Below answers the greatest number of the fewest bits with which at least that part of the numbers, part of of, have as many or fewer.
func Below(h api.Hist, part, of uint64) (uint64, api.Errno) {
	if of == 0 || of > mostParts || part > of {
		return 0, api.ErrArg
	}
	var none [api.Buckets]uint64
	if h.Counts == none {
		return 0, api.OK
	}
	all, ok := total(h.Counts)
	if !ok {
		return 0, api.ErrLong
	}
	enough := (all*part + of - 1) / of
	k, seen := 0, h.Counts[0]
	for seen < enough {
		k++
		seen += h.Counts[k]
	}
	// Of 64 bits, too: there the shift leaves 0, and 0 less 1 goes round.
	return uint64(1)<<k - 1, api.OK
}

// total answers how many numbers there are, and whether they are not too many.
func total(counts [api.Buckets]uint64) (uint64, bool) {
	var all uint64
	for _, n := range counts {
		// Not all+n > mostNumbers: a huge count would wrap round.
		if n > mostNumbers-all {
			return 0, false
		}
		all += n
	}
	return all, true
}
