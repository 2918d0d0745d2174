package tally_test

import (
	"math"
	"slices"
	"testing"

	"patchbay/api"
	"patchbay/plays"
	"patchbay/tally"
	"patchbay/turn"
)

func TestP111NewThatMayNotBe(t *testing.T) {
	for _, n := range []int{0, -1, -2, -api.MaxShards, api.MaxShards + 1, api.MaxShards + 2, 2 * api.MaxShards, 255, 256, 257, 1 << 16, 1<<16 + 1,
		1 << 31, 1<<31 + 1, 1 << 32, 1<<32 + 1, 1 << 62, math.MaxInt, math.MinInt, math.MinInt + 1, math.MinInt + api.MaxShards} {
		if x, e := tally.New(n); x != nil || e != api.ErrArg {
			t.Errorf("New(%d): %v, %v", n, x, e)
		}
	}
}

func TestP111New(t *testing.T) {
	for n := 1; n <= api.MaxShards; n++ {
		x := made(t, n)
		holds(t, "New", x, zeros(n)...)
		plays.Is(t, "New", asIs(x), nil, add(n-1, 7), number(7))
		plays.Is(t, "New", asIs(x), nil, add(n, 7), refused(api.ErrRange))
		holds(t, "New", x, append(zeros(n-1), 7)...)
	}
}

func TestP111Examples(t *testing.T) {
	for _, n := range []int{0, 65} {
		if x, e := tally.New(n); x != nil || e != api.ErrArg {
			t.Errorf("New(%d): %v, %v", n, x, e)
		}
	}
	x := asIs(made(t, 2))
	plays.Is(t, "an example", x, nil, add(0, 5), number(5))
	plays.Is(t, "an example", x, nil, add(1, 2), number(2))
	plays.Is(t, "an example", x, nil, add(0, 1), number(6))
	plays.Is(t, "an example", x, nil, add(2, 1), refused(api.ErrRange))
	plays.Tells(t, "an example", x, sum(), number(8), load(0), load(1))
	plays.Tells(t, "an example", x, parts(), shards(6, 2), load(0), load(1))
}

// TestP111OperationsOfAllSizes: each shard is a word of its own.
func TestP111OperationsOfAllSizes(t *testing.T) {
	for n := 1; n <= api.MaxShards; n++ {
		x, want := made(t, n), zeros(n)
		all := uint64(0)
		for round := range uint64(3) {
			for shard := range n {
				v := round*uint64(n) + uint64(shard) + 1
				want[shard] += v
				all += v
				plays.Tells(t, "Add", asIs(x), add(shard, v), number(want[shard]), added(shard))
			}
			plays.Tells(t, "Sum", asIs(x), sum(), number(all), loads(n)...)
			plays.Tells(t, "Parts", asIs(x), parts(), shards(want...), loads(n)...)
		}
		plays.Tells(t, "Add of nothing", asIs(x), add(n-1, 0), number(want[n-1]), added(n-1))
		holds(t, "behind them", x, want...)
	}
}

func TestP111NumbersGoRound(t *testing.T) {
	for _, v := range edges() {
		for _, n := range edges() {
			x := made(t, 3, 0, v)
			plays.Tells(t, "Add", asIs(x), add(1, n), number(v+n), added(1))
			plays.Is(t, "Add", asIs(x), nil, add(2, top), number(top))
			holds(t, "behind them", x, 0, v+n, top)
		}
	}
	full := made(t, api.MaxShards, slices.Repeat([]uint64{top}, api.MaxShards)...)
	// As many of 2^64 - 1 are as many less than a number that has gone round.
	plays.Is(t, "all full", asIs(full), nil, sum(), number(top-api.MaxShards+1))
}

func TestP111ShardsThatAreNone(t *testing.T) {
	for n := 1; n <= api.MaxShards; n++ {
		x := made(t, n, slices.Repeat([]uint64{3}, n)...)
		for _, shard := range []int{-1, -2, -n, n, n + 1, api.MaxShards, api.MaxShards + 1, 255, 256, 1 << 16, 1 << 32, 1<<32 + n - 1, 1 << 62,
			math.MaxInt, math.MinInt, math.MinInt + n - 1} {
			for _, v := range []uint64{0, 1, top} {
				plays.Tells(t, "none", asIs(x), add(shard, v), refused(api.ErrRange))
				plays.Is(t, "none", asIs(x), nil, add(shard, v), refused(api.ErrRange))
			}
		}
		holds(t, "behind them", x, slices.Repeat([]uint64{3}, n)...)
	}
}

func TestP111TalliesThatAreNone(t *testing.T) {
	whole := made(t, 2, 5, 6)
	for name, x := range map[string]*tally.Tally{"nil": nil, "a zero value": {}, "new": new(tally.Tally), "a copy": plays.Copied(whole)} {
		// ErrNil comes ahead of all else: there is no such shard, either.
		for _, a := range one(add(0, 1), add(1, top), add(0, 0), add(2, 1), add(-1, 1), add(math.MaxInt, 1), sum(), parts()) {
			plays.Tells(t, name, asIs(x), a, refused(api.ErrNil))
			plays.Is(t, name, asIs(x), nil, a, refused(api.ErrNil))
		}
	}
	holds(t, "the whole one", whole, 5, 6)
}

func TestP111TalliesAreTheirOwn(t *testing.T) {
	a, b := made(t, 2), made(t, 2)
	plays.Is(t, "a", asIs(a), nil, add(0, 5), number(5))
	plays.Is(t, "b", asIs(b), nil, add(1, 7), number(7))
	plays.Is(t, "a", asIs(a), nil, add(1, 1), number(1))
	holds(t, "a", a, 5, 1)
	holds(t, "b", b, 0, 7)
}

// TestP111PartsAreNewMemory: whoever was told may do with it what he likes.
func TestP111PartsAreNewMemory(t *testing.T) {
	x := made(t, 3, 1, 2, 3)
	first, _ := x.Parts(nil)
	second, _ := x.Parts(nil)
	first[0], first[2] = 99, 98
	first = append(first[:1], 97)
	plays.Is(t, "behind them", asIs(x), nil, add(1, 10), number(12))
	if !slices.Equal(second, []uint64{1, 2, 3}) || !slices.Equal(first, []uint64{99, 97}) {
		t.Errorf("%v, %v", first, second)
	}
	holds(t, "behind them", x, 1, 12, 3)
}

// TestP111FreeCallsAnswerTheSame: a gate that is nil is told nothing, and one that is a nil pointer is no nil gate: it is told, and does nothing.
func TestP111FreeCallsAnswerTheSame(t *testing.T) {
	for n := 1; n <= api.MaxShards; n++ {
		free, under, nobody := asIs(made(t, n)), asIs(made(t, n)), asIs(made(t, n))
		for i := range 100 {
			a := one(add(i*7%n, uint64(i)<<(i%60)), sum(), add(i%(n+1), top), parts(), add(-i, 1))[i%5]
			want := under.Of(a, turn.NewNotes())
			plays.Is(t, "free", free, nil, a, want)
			plays.Is(t, "a nil pointer", nobody, (*turn.Notes)(nil), a, want)
		}
		if !slices.Equal(free.Words(), under.Words()) || !slices.Equal(nobody.Words(), under.Words()) {
			t.Errorf("of %d: %v, %v, not %v", n, free.Words(), nobody.Words(), under.Words())
		}
	}
}
