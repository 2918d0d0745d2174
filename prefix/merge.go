package prefix

import (
	"slices"

	"patchbay/api"
)

// Merge answers the shortest list of prefixes that has the addresses of these, in order.
func Merge(l ...api.Prefix) ([]api.Prefix, api.Errno) {
	for _, p := range l {
		if e := Check(p); e != api.OK {
			return nil, e
		}
	}
	l = slices.Clone(l)
	slices.SortFunc(l, Compare)
	var merged []api.Prefix
	for _, p := range l {
		merged = add(merged, p)
	}
	return merged, api.OK
}

// add answers the merged list with the addresses of p, too, which stands behind all that is in it.
func add(merged []api.Prefix, p api.Prefix) []api.Prefix {
	for len(merged) > 0 {
		last := merged[len(merged)-1]
		if Covers(last, p) {
			return merged
		}
		both, ok := whole(last, p)
		if !ok {
			break
		}
		// What these two are together may be half of one again.
		merged, p = merged[:len(merged)-1], both
	}
	return append(merged, p)
}

// whole answers the prefix whose halves these two are, and whether there is one.
func whole(a, b api.Prefix) (api.Prefix, bool) {
	p, e := Of(a.Addr, a.Bits-1)
	if e != api.OK {
		return api.Prefix{}, false
	}
	low, high, _ := Halves(p)
	return p, a == low && b == high
}
