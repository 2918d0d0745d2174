package bucket_test

import (
	"math/rand"
	"slices"
	"testing"

	"patchbay/api"
	"patchbay/bucket"
)

// firsts are states to begin with: those that tokens lead to, those between them, and the greatest ones.
func firsts(b api.Bucket) []uint64 {
	return []uint64{0, 1, b.Den, b.Burst * b.Den, b.Burst*b.Den + 3*b.Num + 1, top - 1, top}
}

// neverMore ends in an error, if of what was let through of the row any stretch is too full; it answers what was.
func neverMore(t *testing.T, b api.Bucket, state uint64, row []ask) []ask {
	t.Helper()
	passed, _ := takes(t, b, state, row)
	fitsIs(t, b, passed, len(passed), api.OK)
	return passed
}

// TestP127Rows: all rows of four, whatever state is first. Of three what was let through is held against the words of P12.6, too.
func TestP127Rows(t *testing.T) {
	for _, b := range []api.Bucket{of(1, 2, 2), of(3, 1, 1), of(2, 3, 2)} {
		among := each([]uint64{0, 1, 3}, []uint64{0, 1, b.Burst})
		for _, first := range firsts(b) {
			rows(4, among, func(row []ask) { neverMore(t, b, first, row) })
			rows(3, among, func(row []ask) {
				if passed, _ := takes(t, b, first, row); tooFull(b, passed) {
					t.Errorf("%v from %d: %v passed of %v", b, first, passed, row)
				}
			})
		}
	}
}

// walk answers a row of asks at ticks that go so many on, stay, and go back again, of tokens that are few, and now and then many.
func walk(r *rand.Rand, b api.Bucket, n int) []ask {
	var row []ask
	span := int64(b.Burst*b.Den/b.Num + 2)
	now := span
	for range n {
		if step := r.Int63n(span) / 4; r.Intn(3) > 0 {
			now = min(now+step, api.MaxTick)
		} else {
			now = max(now-2*step, 0)
		}
		most := int64(b.Burst)/8 + 2
		if r.Intn(10) == 0 {
			most = int64(b.Burst) + 2
		}
		row = append(row, ask{uint64(now), uint64(r.Int63n(most))})
	}
	return row
}

// TestP127BackAndForth: long rows, of all buckets; many are let through and many are not.
func TestP127BackAndForth(t *testing.T) {
	r := rand.New(rand.NewSource(127))
	for _, b := range append(buckets(), smallOnes()...) {
		all, let := 0, 0
		for _, first := range firsts(b) {
			row := walk(r, b, 300)
			all, let = all+len(row), let+len(neverMore(t, b, first, row))
		}
		if let < all/20 || let > all*19/20 {
			t.Errorf("%v: %d of %d", b, let, all)
		}
	}
}

// TestP127AsManyAsFitsIsHanded: so many are let through, each as soon as it can be.
func TestP127AsManyAsFitsIsHanded(t *testing.T) {
	for _, b := range buckets() {
		state, now := uint64(0), uint64(0)
		var passed []ask
		for len(passed) < api.MaxRecord {
			n := uint64(len(passed)) % (min(b.Burst, 3) + 1)
			tick, ok, e := bucket.When(b, state, now, n)
			next, through, _ := bucket.Take(b, state, tick, n)
			if e != api.OK || !ok || !through {
				t.Fatalf("%v, state %d, %d: %d, %v, %v, %v", b, state, n, tick, ok, e, through)
			}
			passed = append(passed, ask{tick, n})
			state, now = next, tick
		}
		fitsIs(t, b, passed, len(passed), api.OK)
		slices.Reverse(passed)
		fitsIs(t, b, passed, len(passed), api.OK)
	}
}

// TestP127NoneEndsTooFull: tokens that one after the other are let through as long as it goes, at ticks that fall and rise, are no more than Most of the whole stretch.
func TestP127NoneEndsTooFull(t *testing.T) {
	b := of(1, 5, 4)
	for far := range uint64(60) {
		state, all := uint64(0), uint64(0)
		for _, now := range []uint64{far, 0, far, far / 2, 0, far} {
			for {
				next, ok, _ := bucket.Take(b, state, now, 1)
				if !ok {
					break
				}
				state, all = next, all+1
			}
		}
		if most, _ := bucket.Most(b, far); all > most {
			t.Errorf("%d ticks: %d, not %d", far, all, most)
		}
	}
}

// allThatCanBe ends in an error, if one that is not let through, of a row whose ticks do not fall, would have made no stretch too full that ends at its tick.
func allThatCanBe(t *testing.T, b api.Bucket, row []ask) {
	t.Helper()
	let, e := bucket.Run(b, row...)
	if e != api.OK {
		t.Fatalf("Run(%v, %v): %v", b, row, e)
	}
	var passed []ask
	for i, x := range row {
		with := append(slices.Clone(passed), x)
		if full := endsTooFull(b, with, x[0]); let[i] == full {
			t.Errorf("%v: %v behind %v: %v", b, x, passed, let[i])
		}
		if let[i] {
			passed = with
		}
	}
}

// TestP128Rows: all rows of four whose ticks do not fall.
func TestP128Rows(t *testing.T) {
	for _, b := range []api.Bucket{of(1, 2, 2), of(3, 1, 1), of(2, 3, 2)} {
		rows(4, each([]uint64{0, 1, 3}, []uint64{0, 1, b.Burst}), func(row []ask) {
			if slices.IsSortedFunc(row, func(a, b ask) int { return int(a[0]) - int(b[0]) }) {
				allThatCanBe(t, b, row)
			}
		})
	}
}

// TestP128DrawnRows: longer ones, of all buckets.
func TestP128DrawnRows(t *testing.T) {
	r := rand.New(rand.NewSource(128))
	for _, b := range append(buckets(), smallOnes()...) {
		for range 3 {
			allThatCanBe(t, b, byTick(walk(r, b, 30)))
		}
	}
}

// levelAndWhen ends in an error, if what Take, Level and When answer of these does not hang together.
func levelAndWhen(t *testing.T, b api.Bucket, state, now, n uint64) {
	t.Helper()
	through := func(tick uint64) bool {
		_, ok, e := bucket.Take(b, state, tick, n)
		if e != api.OK {
			t.Errorf("Take(%v, %d, %d, %d): %v", b, state, tick, n, e)
		}
		return ok
	}
	level, e := bucket.Level(b, state, now)
	want := n <= level
	if n == 0 {
		_, ahead := moment(b, state, now)
		want = atMost(ahead, times(b.Burst, b.Den))
	}
	if through(now) != want || e != api.OK {
		t.Errorf("%v, state %d, at %d: level %d, %v, but of %d: %v", b, state, now, level, e, n, !want)
	}
	tick, ok, e := bucket.When(b, state, now, n)
	if e != api.OK || through(now) != (ok && tick == now) {
		t.Errorf("%v, state %d, at %d, %d: when %d, %v, %v", b, state, now, n, tick, ok, e)
	}
	if ok && (tick < now || !through(tick) || tick > now && through(tick-1)) || !ok && through(api.MaxTick) {
		t.Errorf("%v, state %d, at %d, %d: when %d, %v is not the first one", b, state, now, n, tick, ok)
	}
}

// levels ends in an error, if between these two ticks the level falls, or rises by more than what flows in, and 1.
func levels(t *testing.T, b api.Bucket, state, now, d uint64) {
	t.Helper()
	level, _ := bucket.Level(b, state, now)
	later, e := bucket.Level(b, state, now+d)
	in := times(d, b.Num)
	most := sum(number(level), in.Div(in, number(b.Den)), number(1))
	if e != api.OK || later < level || greater(number(later), most) {
		t.Errorf("%v, state %d: level %d at %d, %d at %d, %v", b, state, level, now, later, now+d, e)
	}
}

func TestP129OfSmallOnes(t *testing.T) {
	for _, b := range smallOnes() {
		for state := range uint64(30) {
			for now := range uint64(6) {
				for n := range b.Burst + 2 {
					levelAndWhen(t, b, state, now, n)
				}
				for d := range uint64(10) {
					levels(t, b, state, now, d)
				}
			}
		}
	}
}

func TestP129Edges(t *testing.T) {
	for _, b := range buckets() {
		for _, now := range []uint64{0, 1, 1 << 16, 1<<39 + 5, api.MaxTick - 1, api.MaxTick} {
			for _, n := range tokens(b) {
				for _, state := range states(b, now, n) {
					levelAndWhen(t, b, state, now, n)
				}
			}
			for _, state := range states(b, now, 1) {
				for _, d := range []uint64{0, 1, b.Den, b.Burst, 1 << 30, api.MaxTick - now} {
					if d <= api.MaxTick-now {
						levels(t, b, state, now, d)
					}
				}
			}
		}
	}
}
