package tally_test

import (
	"slices"
	"testing"

	"patchbay/api"
	"patchbay/plays"
	"patchbay/tally"
	"patchbay/turn"
)

func TestP112NewHist(t *testing.T) {
	x := filled(t)
	has(t, "NewHist", x)
	plays.Tells(t, "NewHist", histIs(x), get(), told{}, loads(67)...)
}

func TestP112Examples(t *testing.T) {
	x := filled(t, 0, 1, 5, 4)
	want := api.Hist{Counts: [api.Buckets]uint64{1, 1, 0, 2}, Sum: 10, Max: 5}
	plays.Is(t, "an example", histIs(x), nil, get(), told{hist: want})
	x = filled(t)
	plays.Tells(t, "an example", histIs(x), come{v: 5}, told{}, added(3), added(65), load(66), cas(66))
	plays.Tells(t, "an example", histIs(x), come{v: 4}, told{}, added(3), added(65), load(66))
	has(t, "an example", x, 5, 4)
}

// TestP112Bits: as the chapter says it, number by number.
func TestP112Bits(t *testing.T) {
	for v, bits := range map[uint64]int{0: 0, 1: 1, 2: 2, 3: 2, 4: 3, 7: 3, 8: 4, 255: 8, 256: 9, 1<<32 - 1: 32, 1 << 32: 33, 1<<63 - 1: 63, 1 << 63: 64, top: 64} {
		want := api.Hist{Sum: v, Max: v}
		want.Counts[bits] = 1
		plays.Is(t, "one number", histIs(filled(t, v)), nil, get(), told{hist: want})
	}
}

func TestP112OperationsOfAllNumbers(t *testing.T) {
	for _, v := range edges() {
		x, bits := filled(t), bitsOf(v)
		if v == 0 {
			// It is not above what a new one begins with.
			plays.Tells(t, "the first one", histIs(x), come{v: 0}, told{}, lesserSteps(0)...)
		} else {
			plays.Tells(t, "the first one", histIs(x), come{v: v}, told{}, risingSteps(bits)...)
		}
		plays.Tells(t, "the same again", histIs(x), come{v: v}, told{}, lesserSteps(bits)...)
		numbers := []uint64{v, v}
		if v > 0 {
			plays.Tells(t, "one less", histIs(x), come{v: v - 1}, told{}, lesserSteps(bitsOf(v-1))...)
			plays.Tells(t, "nothing", histIs(x), come{v: 0}, told{}, lesserSteps(0)...)
			numbers = append(numbers, v-1, 0)
		}
		if v < top {
			plays.Tells(t, "one more", histIs(x), come{v: v + 1}, told{}, risingSteps(bitsOf(v+1))...)
			numbers = append(numbers, v+1)
		}
		plays.Tells(t, "Get", histIs(x), get(), told{hist: histOf(numbers...)}, loads(67)...)
		has(t, "behind them", x, numbers...)
	}
}

func TestP112ManyNumbers(t *testing.T) {
	up, down := edges(), slices.Clone(edges())
	slices.Reverse(down)
	for _, list := range [][]uint64{up, down, slices.Concat(up, down, up), slices.Repeat([]uint64{top}, 9), slices.Repeat([]uint64{0}, 9)} {
		x := filled(t)
		for i, a := range comes(list...) {
			plays.Is(t, "Add", histIs(x), nil, a, told{})
			has(t, "behind it", x, list[:i+1]...)
		}
	}
}

func TestP112HistsThatAreNone(t *testing.T) {
	whole := filled(t, 5, 6)
	for name, x := range map[string]*tally.Hist{"nil": nil, "a zero value": {}, "new": new(tally.Hist), "a copy": plays.Copied(whole)} {
		for _, a := range append(comes(0, 1, 7, 9, top), get()) {
			plays.Tells(t, name, histIs(x), a, told{e: api.ErrNil})
			plays.Is(t, name, histIs(x), nil, a, told{e: api.ErrNil})
		}
	}
	has(t, "the whole one", whole, 5, 6)
}

func TestP112HistsAreTheirOwn(t *testing.T) {
	a, b := filled(t, 1), filled(t, 9)
	plays.Is(t, "a", histIs(a), nil, come{v: 3}, told{})
	got := get().of(a, nil)
	got.hist.Counts[1] = 99
	has(t, "a", a, 1, 3)
	has(t, "b", b, 9)
}

// TestP112FreeCallsAnswerTheSame: a gate that is nil is told nothing, and one that is a nil pointer is no nil gate: it is told, and does nothing.
func TestP112FreeCallsAnswerTheSame(t *testing.T) {
	free, under, nobody := histIs(filled(t)), histIs(filled(t)), histIs(filled(t))
	for i, v := range edges() {
		a := []come{{v: v}, {v: uint64(i)}, get()}[i%3]
		want := under.Of(a, turn.NewNotes())
		plays.Is(t, "free", free, nil, a, want)
		plays.Is(t, "a nil pointer", nobody, (*turn.Notes)(nil), a, want)
	}
	if !slices.Equal(free.Words(), under.Words()) || !slices.Equal(nobody.Words(), under.Words()) {
		t.Errorf("%v, %v, not %v", free.Words(), nobody.Words(), under.Words())
	}
}
