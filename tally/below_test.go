package tally_test

import (
	"math/big"
	"slices"
	"testing"

	"patchbay/api"
	"patchbay/tally"
)

const (
	mostParts   = 1 << 20
	mostNumbers = 1 << 40
)

// counted answers a histogram with these counts, of the numbers of as many bits, and nothing that fits them beside.
func counted(counts map[int]uint64) api.Hist {
	h := api.Hist{Sum: 77, Max: 3}
	for k, n := range counts {
		h.Counts[k] = n
	}
	return h
}

// below answers what Below answers of counts that may be, as the chapter says it, in numbers that never go round.
func below(h api.Hist, part, of uint64) uint64 {
	number := func(v uint64) *big.Int { return new(big.Int).SetUint64(v) }
	all := number(0)
	for _, n := range h.Counts {
		all.Add(all, number(n))
	}
	// So many or fewer bits have seen of all: as many as all part / of, rounded up or not, if seen of is not below all part.
	least := number(0).Mul(all, number(part))
	seen := number(0)
	greatest := number(0)
	for _, n := range h.Counts {
		seen.Add(seen, number(n))
		if number(0).Mul(seen, number(of)).Cmp(least) >= 0 {
			break
		}
		greatest.Lsh(greatest, 1).Add(greatest, number(1))
	}
	return greatest.Uint64()
}

// belowIs ends in an error, if Below answers otherwise.
func belowIs(t *testing.T, h api.Hist, part, of, want uint64, wrong api.Errno) {
	t.Helper()
	if v, e := tally.Below(h, part, of); v != want || e != wrong {
		t.Errorf("Below(%v, %d, %d): %d, %v, not %d, %v", h.Counts, part, of, v, e, want, wrong)
	}
}

func TestP113BelowExamples(t *testing.T) {
	h := histOf(0, 1, 5, 4)
	for _, x := range []struct{ part, of, want uint64 }{{1, 4, 0}, {1, 2, 1}, {3, 4, 7}, {0, 1, 0}} {
		belowIs(t, h, x.part, x.of, x.want, api.OK)
	}
	belowIs(t, h, 2, 1, 0, api.ErrArg)
	belowIs(t, h, 0, 0, 0, api.ErrArg)
	belowIs(t, api.Hist{}, 1, 1, 0, api.OK)
}

// TestP113BelowOfSmallOnes: of all histograms of a few numbers, all parts.
func TestP113BelowOfSmallOnes(t *testing.T) {
	const most = 3
	for _, places := range [][4]int{{0, 1, 2, 3}, {0, 5, 31, 64}, {1, 32, 33, 63}, {61, 62, 63, 64}} {
		for row := range (most + 1) * (most + 1) * (most + 1) * (most + 1) {
			counts := map[int]uint64{}
			for _, k := range places {
				counts[k] = uint64(row % (most + 1))
				row /= most + 1
			}
			h := counted(counts)
			for of := uint64(1); of <= 13; of++ {
				for part := range of + 1 {
					belowIs(t, h, part, of, below(h, part, of), api.OK)
				}
			}
		}
	}
}

// TestP113BelowOfOneNumberOfBits: the greatest number of so many bits, of 64, too; but of no part it is 0.
func TestP113BelowOfOneNumberOfBits(t *testing.T) {
	for k := range api.Buckets {
		want := uint64(0)
		for range k {
			want = 2*want + 1
		}
		for _, n := range []uint64{1, 2, 1 << 20, mostNumbers - 1, mostNumbers} {
			h := counted(map[int]uint64{k: n})
			for _, of := range []uint64{1, 2, 3, mostParts - 1, mostParts} {
				belowIs(t, h, 0, of, 0, api.OK)
				belowIs(t, h, 1, of, want, api.OK)
				belowIs(t, h, of, of, want, api.OK)
			}
		}
	}
}

// parted are parts about each power of two.
func parted() [][2]uint64 {
	var list [][2]uint64
	for _, of := range []uint64{1, 2, 3, 5, 100, 1000, 1<<10 - 1, 1 << 10, 1<<19 + 1, mostParts - 1, mostParts} {
		for _, part := range []uint64{0, 1, 2, of / 3, of / 2, of/2 + 1, of - 2, of - 1, of} {
			if part <= of {
				list = append(list, [2]uint64{part, of})
			}
		}
	}
	return list
}

// TestP113BelowOfManyNumbers: as many as there may be; no product goes round, and all is rounded up.
func TestP113BelowOfManyNumbers(t *testing.T) {
	for _, n := range []uint64{1, 2, 3, 1<<20 - 1, 1 << 20, 1<<20 + 1, 1<<39 - 1, 1 << 39, 1<<39 + 1, mostNumbers - 1, mostNumbers} {
		for _, k := range []int{0, 1, 30, 63} {
			h := counted(map[int]uint64{k: n, k + 1: mostNumbers - n})
			for _, x := range parted() {
				belowIs(t, h, x[0], x[1], below(h, x[0], x[1]), api.OK)
			}
		}
		for _, x := range parted() {
			// Just as many as that part, one less and one more stand at the fewest bits.
			least := new(big.Int).Mul(new(big.Int).SetUint64(n), new(big.Int).SetUint64(x[0]))
			seen := least.Div(least, new(big.Int).SetUint64(x[1])).Uint64()
			for _, few := range []uint64{seen - 1, seen, seen + 1} {
				if few <= n {
					h := counted(map[int]uint64{2: few, 9: n - few})
					belowIs(t, h, x[0], x[1], below(h, x[0], x[1]), api.OK)
				}
			}
		}
	}
	var h api.Hist
	for k := range h.Counts {
		h.Counts[k] = mostNumbers / api.Buckets
	}
	for _, x := range parted() {
		belowIs(t, h, x[0], x[1], below(h, x[0], x[1]), api.OK)
	}
}

// TestP113BelowLooksAtTheCountsAlone: Sum and Max say nothing of it.
func TestP113BelowLooksAtTheCountsAlone(t *testing.T) {
	h := histOf(0, 1, 5, 4)
	for _, v := range []uint64{0, 1, 5, 1 << 40, top} {
		h.Sum, h.Max = v, top-v
		belowIs(t, h, 3, 4, 7, api.OK)
		belowIs(t, api.Hist{Sum: v, Max: v}, 1, 1, 0, api.OK)
	}
}

func TestP113BelowOfPartsThatMayNotBe(t *testing.T) {
	long := counted(map[int]uint64{3: mostNumbers + 1})
	// ErrArg comes ahead of ErrLong.
	for _, h := range []api.Hist{{}, histOf(0, 1, 5, 4), counted(map[int]uint64{64: mostNumbers}), long} {
		for _, x := range [][2]uint64{{0, 0}, {1, 0}, {top, 0}, {2, 1}, {3, 2}, {top, 1}, {1 << 63, 7}, {1 << 32, 1}, {0, mostParts + 1}, {1, mostParts + 1},
			{mostParts + 1, mostParts + 1}, {mostParts + 1, mostParts}, {0, 1 << 21}, {1, 1 << 32}, {1, 1<<32 + 1}, {0, 1 << 63}, {top, top}, {0, top}} {
			belowIs(t, h, x[0], x[1], 0, api.ErrArg)
		}
	}
}

func TestP113BelowOfTooManyNumbers(t *testing.T) {
	var each, full api.Hist
	for k := range each.Counts {
		each.Counts[k], full.Counts[k] = mostNumbers/api.Buckets+1, top
	}
	for _, h := range []api.Hist{
		counted(map[int]uint64{0: mostNumbers + 1}),
		counted(map[int]uint64{64: mostNumbers + 1}),
		counted(map[int]uint64{0: mostNumbers, 64: 1}),
		counted(map[int]uint64{0: 1, 64: mostNumbers}),
		counted(map[int]uint64{7: 1 << 39, 8: 1<<39 + 1}),
		counted(map[int]uint64{64: top}),
		// Together they would go round.
		counted(map[int]uint64{0: 1 << 63, 1: 1 << 63}),
		counted(map[int]uint64{0: 1, 1: top}),
		counted(map[int]uint64{0: 2, 1: top}),
		counted(map[int]uint64{0: mostNumbers, 1: top}),
		counted(map[int]uint64{0: top, 64: mostNumbers + 1}),
		each, full,
	} {
		for _, x := range parted() {
			belowIs(t, h, x[0], x[1], 0, api.ErrLong)
		}
	}
}

// joined answers what came to both, as the chapter says it.
func joined(a, b api.Hist) api.Hist {
	for k := range a.Counts {
		a.Counts[k] += b.Counts[k]
	}
	a.Sum += b.Sum
	if b.Max > a.Max {
		a.Max = b.Max
	}
	return a
}

// joinIs ends in an error, if Join answers otherwise.
func joinIs(t *testing.T, want api.Hist, list ...api.Hist) {
	t.Helper()
	if got := tally.Join(list...); got != want {
		t.Errorf("Join(%v): %v, not %v", list, got, want)
	}
}

// hists are histograms of all kinds, those to which no numbers came among them.
func hists() []api.Hist {
	var each api.Hist
	for k := range each.Counts {
		each.Counts[k] = uint64(k) << 57
	}
	each.Sum, each.Max = top, 1<<63
	return []api.Hist{{}, histOf(0, 1, 5, 4), histOf(top, top, 0), histOf(edges()...), {Sum: top}, {Max: top}, {Sum: 1, Max: 1}, counted(map[int]uint64{0: top, 64: top}), each}
}

func TestP113Join(t *testing.T) {
	joinIs(t, api.Hist{})
	joinIs(t, api.Hist{}, []api.Hist{}...)
	joinIs(t, api.Hist{}, make([]api.Hist, 5)...)
	for _, a := range hists() {
		joinIs(t, a, a)
		joinIs(t, a, a, api.Hist{})
		joinIs(t, a, api.Hist{}, a)
		for _, b := range hists() {
			joinIs(t, joined(a, b), a, b)
			for _, c := range hists() {
				joinIs(t, joined(joined(a, b), c), a, b, c)
			}
		}
	}
	h := histOf(0, 1, 5, 4)
	joinIs(t, api.Hist{Counts: [api.Buckets]uint64{2, 2, 0, 4}, Sum: 20, Max: 5}, h, h)
	many := tally.Join(slices.Repeat([]api.Hist{histOf(top)}, 1000)...)
	if many.Counts[64] != 1000 || many.Sum != top-999 || many.Max != top {
		t.Errorf("a thousand: %v", many)
	}
}

func TestP113JoinChangesNothing(t *testing.T) {
	list := hists()
	room := append(slices.Clone(list), hists()...)
	if tally.Join(room[:len(list)]...); !slices.Equal(room, append(list, hists()...)) {
		t.Errorf("it is %v, behind a Join", room)
	}
	h := list[8]
	if tally.Below(h, 1, 2); h != hists()[8] {
		t.Errorf("it is %v, behind a Below", h)
	}
}

// TestP114JoinInAnyOrder: of histograms of all kinds, by all orders.
func TestP114JoinInAnyOrder(t *testing.T) {
	list := hists()[1:7]
	want := tally.Join(list...)
	var from func(n int)
	from = func(n int) {
		if n == len(list) {
			joinIs(t, want, list...)
		}
		for i := n; i < len(list); i++ {
			list[n], list[i] = list[i], list[n]
			from(n + 1)
			list[n], list[i] = list[i], list[n]
		}
	}
	from(0)
	// Nor on what was joined ahead.
	joinIs(t, want, tally.Join(list[:2]...), tally.Join(list[2:5]...), list[5])
	joinIs(t, want, list[5], tally.Join(tally.Join(list[3:5]...), list[0]), list[2], list[1])
}

// TestP114JoinOfTwoIsThatOfOne to which all came.
func TestP114JoinOfTwoIsThatOfOne(t *testing.T) {
	all := edges()
	for cut := 0; cut <= len(all); cut += 3 {
		one, other, both := filled(t, all[:cut]...), filled(t, all[cut:]...), filled(t, all...)
		a, b, want := get().of(one, nil), get().of(other, nil), get().of(both, nil)
		joinIs(t, want.hist, a.hist, b.hist)
		joinIs(t, want.hist, b.hist, a.hist)
		if want.hist != histOf(all...) {
			t.Errorf("of all: %v", want)
		}
	}
}
