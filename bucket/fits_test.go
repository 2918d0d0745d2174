package bucket_test

import (
	"math/rand"
	"slices"
	"testing"

	"patchbay/api"
)

func TestP126Examples(t *testing.T) {
	b := slow()
	fitsIs(t, b, []ask{{0, 3}, {10, 1}, {5, 1}}, 2, api.OK)
	fitsIs(t, b, []ask{{20, 2}, {0, 3}, {10, 1}}, 2, api.OK)
	fitsIs(t, b, []ask{{0, 4}}, 0, api.OK)
	fitsIs(t, b, nil, 0, api.OK)
	fitsIs(t, b, []ask{}, 0, api.OK)
}

// TestP126Rows: all rows of a few that are small, by all orders of their ticks.
func TestP126Rows(t *testing.T) {
	for _, b := range []api.Bucket{slow(), of(3, 1, 1), of(2, 3, 2), of(3, 7, 4)} {
		for n := 1; n <= 3; n++ {
			rows(n, each([]uint64{0, 1, 3, 10}, []uint64{0, 1, 2, b.Burst, b.Burst + 1}), func(row []ask) {
				fitsIs(t, b, row, fitsSays(b, row), api.OK)
			})
		}
		rows(5, each([]uint64{2, 0, 1}, []uint64{1, 2}), func(row []ask) {
			fitsIs(t, b, row, fitsSays(b, row), api.OK)
		})
	}
}

// TestP126DrawnRows: longer ones, of all buckets, sparse ones and dense ones.
func TestP126DrawnRows(t *testing.T) {
	r := rand.New(rand.NewSource(126))
	for _, b := range append(buckets(), smallOnes()...) {
		span := int64(b.Burst*b.Den/b.Num + 2)
		for _, tick := range []int64{1, span, 4 * span, api.MaxTick} {
			for _, most := range []int64{2, int64(b.Burst)/3 + 2, int64(b.Burst) + 1} {
				row := drawn(r, 12, tick, most)
				fitsIs(t, b, row, fitsSays(b, row), api.OK)
			}
		}
	}
}

// TestP126AStretchThatIsJustFull: behind a whole burst as many tokens as have flowed in pass as early as they may; a tick earlier they are too many, and so is one more within the stretch, whichever comes last.
func TestP126AStretchThatIsJustFull(t *testing.T) {
	for _, b := range buckets() {
		for _, n := range []uint64{1, 2, b.Burst/2 + 1, b.Burst} {
			d := (n*b.Den + b.Num - 1) / b.Num
			in := mostSays(b, d).Uint64() - b.Burst
			if in > b.Burst {
				continue // more than can pass at one tick
			}
			for _, first := range []uint64{0, api.MaxTick - d} {
				burst, behind := ask{first, b.Burst}, ask{first + d, in}
				early := ask{first + d - 1, in}
				fitsIs(t, b, []ask{burst, behind}, 2, api.OK)
				fitsIs(t, b, []ask{behind, burst}, 2, api.OK)
				fitsIs(t, b, []ask{burst, early}, 1, api.OK)
				fitsIs(t, b, []ask{early, burst}, 1, api.OK)
				for _, tick := range []uint64{first, first + d/2, first + d} {
					more := ask{tick, 1}
					fitsIs(t, b, []ask{burst, behind, more}, 2, api.OK)
					fitsIs(t, b, []ask{behind, burst, more, more}, 2, api.OK)
					fitsIs(t, b, []ask{behind, burst, {tick, 0}, more}, 3, api.OK)
				}
				if d > 1 && in < b.Burst {
					fitsIs(t, b, []ask{behind, {first + d, 1}, burst}, 2, api.OK)
				}
			}
		}
	}
}

// TestP126HugeNumbers: together they would go round, in one word and in two.
func TestP126HugeNumbers(t *testing.T) {
	for _, b := range buckets() {
		for _, n := range about(b.Burst+1, top, b.Burst+1, 1<<32, 1<<48, 1<<60, 1<<63, top/b.Den, top) {
			for tick := range uint64(3) {
				fitsIs(t, b, []ask{{tick, n}}, 0, api.OK)
				fitsIs(t, b, []ask{{tick, n}, {1, n}, {0, 1}}, 0, api.OK)
				fitsIs(t, b, []ask{{1, b.Burst}, {tick, n}, {1, top}}, 1, api.OK)
				fitsIs(t, b, []ask{{5, 0}, {5, 0}, {api.MaxTick, 1}, {tick, n}, {tick, top - n + 1}, {tick, 1}}, 3, api.OK)
				fitsIs(t, b, slices.Repeat([]ask{{tick, n}}, api.MaxRecord), 0, api.OK)
			}
		}
	}
}

// TestP126NoTokens: where none passed no stretch is too full.
func TestP126NoTokens(t *testing.T) {
	for _, b := range buckets() {
		for _, n := range []int{1, 2, 1000, api.MaxRecord} {
			fitsIs(t, b, slices.Repeat([]ask{{7, 0}}, n), n, api.OK)
		}
		fitsIs(t, b, []ask{{api.MaxTick, 0}, {0, 0}, {3, b.Burst}, {3, 0}, {1, 0}, {9, 0}}, 6, api.OK)
	}
}

// spread answers so many tokens, one each ten ticks, in an order in which few stand beside those of the ticks beside theirs.
func spread(n int) []ask {
	var row []ask
	for i := range n {
		row = append(row, ask{uint64(i*1537%n) * 10, 1})
	}
	return row
}

// TestP126AsManyAsThereMayBe: of all of them, and with one too many tokens at each of many places.
func TestP126AsManyAsThereMayBe(t *testing.T) {
	b := slow()
	row := spread(api.MaxRecord)
	fitsIs(t, b, row, len(row), api.OK)
	fitsIs(t, b, row[1:], len(row)-1, api.OK)
	for place := 0; place < len(row); place += 97 {
		full := slices.Clone(row)
		full[place][1] = 4
		fitsIs(t, b, full, place, api.OK)
	}
	full := slices.Clone(row)
	// Three tokens at each of two ticks beside one another are too many by one, when both have passed.
	full[1000][1], full[4000] = 3, ask{full[1000][0] + 10, 3}
	fitsIs(t, b, full, 4000, api.OK)
	last := len(row) - 1
	full = slices.Clone(row)
	full[last][1] = 4
	fitsIs(t, b, full, last, api.OK)
	// The longest stretch alone is too full, by its last token.
	full = append([]ask{{0, 3}}, byTick(row)[1:last]...)
	fitsIs(t, b, append(full, ask{uint64(last) * 10, 1}), last+1, api.OK)
	fitsIs(t, b, append(full, ask{uint64(last)*10 - 1, 1}), last, api.OK)
	slices.Reverse(full)
	fitsIs(t, b, append(full, ask{uint64(last)*10 - 1, 1}), last, api.OK)
}

// TestP126TooMany: ErrLong comes ahead of ErrRange.
func TestP126TooMany(t *testing.T) {
	for _, b := range buckets() {
		for _, n := range []int{api.MaxRecord + 1, api.MaxRecord + 2, 2 * api.MaxRecord, 1<<16 + 1} {
			for _, x := range []ask{{0, 0}, {0, 1}, {5, top}, {api.MaxTick, 0}, {api.MaxTick + 1, 0}, {top, top}} {
				list := slices.Repeat([]ask{x}, n)
				fitsIs(t, b, list, 0, api.ErrLong)
				list[0], list[n-1] = ask{0, 0}, ask{0, 0}
				fitsIs(t, b, list, 0, api.ErrLong)
			}
		}
		list := make([]ask, api.MaxRecord)
		fitsIs(t, b, list, api.MaxRecord, api.OK)
		for _, place := range []int{0, 1, 2000, api.MaxRecord - 1} {
			wrong := slices.Clone(list)
			wrong[place][0] = api.MaxTick + 1
			fitsIs(t, b, wrong, 0, api.ErrRange)
		}
	}
}

// TestP126TheirOrder: where all fit, they do by all orders; where not, the last one that makes a stretch too full counts.
func TestP126TheirOrder(t *testing.T) {
	b := slow()
	row := []ask{{0, 2}, {0, 1}, {12, 1}, {20, 1}, {41, 2}}
	var from func(n int)
	from = func(n int) {
		if n == len(row) {
			fitsIs(t, b, row, len(row), api.OK)
			for place := 0; place <= len(row); place++ {
				more := slices.Insert(slices.Clone(row), place, ask{9, 1})
				fitsIs(t, b, more, fitsSays(b, more), api.OK)
			}
		}
		for i := n; i < len(row); i++ {
			row[n], row[i] = row[i], row[n]
			from(n + 1)
			row[n], row[i] = row[i], row[n]
		}
	}
	from(0)
}
