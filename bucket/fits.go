package bucket

import (
	"cmp"
	"slices"
	"sort"

	"patchbay/api"
)

// Fits answers the place of the first of what passed, a tick and how many tokens each, with which some stretch is too full; how many there are, if none ever is.
func Fits(b api.Bucket, passed ...[2]uint64) (int, api.Errno) {
	if e := Check(b); e != api.OK {
		return 0, e
	}
	if len(passed) > api.MaxRecord {
		return 0, api.ErrLong
	}
	if e := wrong(b, latest(passed)); e != api.OK {
		return 0, e
	}
	places := rising(passed)
	// A stretch that is too full stays so, whatever passes besides.
	return sort.Search(len(passed), func(last int) bool {
		return tooFull(b, passed, places, last)
	}), api.OK
}

// rising answers the places of what passed, by rising ticks.
func rising(passed [][2]uint64) []int {
	places := make([]int, len(passed))
	for i := range places {
		places[i] = i
	}
	slices.SortStableFunc(places, func(i, j int) int {
		return cmp.Compare(passed[i][0], passed[j][0])
	})
	return places
}

// tooFull tells whether a stretch is too full with what passed at the places up to last.
func tooFull(b api.Bucket, passed [][2]uint64, places []int, last int) bool {
	// Taken by rising ticks, one is refused just where that is so: the state is the greatest number that any stretch up to there asks for.
	var state uint64
	for _, i := range places {
		if i > last {
			continue
		}
		next, ok := take(b, state, passed[i][0], passed[i][1])
		if !ok {
			return true
		}
		state = next
	}
	return false
}
