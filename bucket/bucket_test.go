package bucket_test

import (
	"math/rand"
	"slices"
	"testing"

	"patchbay/api"
	"patchbay/bucket"
)

// notFrom1 are numbers that are not from 1 to most, the least ones and the greatest one among them, and those that are from 1 to most, if only their lower bits are looked at.
func notFrom1(most uint64) []uint64 {
	return []uint64{0, most + 1, most + 2, 2 * most, 2*most + 1, 1<<32 + 1, 1<<32 + most, 1 << 63, 1<<63 + 1, top - most, top}
}

// wrongOnes are buckets that may not be, by one number, by two, and by all.
func wrongOnes() []api.Bucket {
	list := []api.Bucket{{}, of(top, top, top), of(0, 0, 1), of(0, 1, 0), of(1, 0, 0)}
	for _, v := range notFrom1(api.MaxRate) {
		list = append(list, of(v, 1, 1), of(1, v, 1), of(v, api.MaxRate, api.MaxBurst), of(api.MaxRate, v, api.MaxBurst), of(v, v, 7))
	}
	for _, v := range notFrom1(api.MaxBurst) {
		list = append(list, of(1, 1, v), of(api.MaxRate, api.MaxRate, v))
	}
	return list
}

// noTicks are numbers that are no ticks.
func noTicks() []uint64 {
	return []uint64{api.MaxTick + 1, api.MaxTick + 2, 2 * api.MaxTick, 1 << 48, 1 << 63, 1<<63 + 5, top - 1, top}
}

func TestP121Check(t *testing.T) {
	rates := about(1, api.MaxRate, 1, 100, api.MaxRate/2, api.MaxRate)
	for _, num := range rates {
		for _, den := range rates {
			for _, burst := range about(1, api.MaxBurst, 1, 1000, api.MaxRate, api.MaxBurst) {
				if e := bucket.Check(of(num, den, burst)); e != api.OK {
					t.Errorf("Check(%d %d %d): %v", num, den, burst, e)
				}
			}
		}
	}
	for _, b := range wrongOnes() {
		if e := bucket.Check(b); e != api.ErrArg {
			t.Errorf("Check(%v): %v", b, e)
		}
	}
}

// refuses ends in an error, if a call of that bucket, with that tick at whatever place of a list, does not answer that error and nothing beside it.
func refuses(t *testing.T, b api.Bucket, tick uint64, wrong api.Errno) {
	t.Helper()
	for _, n := range []uint64{0, 1, api.MaxBurst, top} {
		for _, state := range []uint64{0, 1, 20, tick, top} {
			takeIs(t, b, state, tick, n, 0, false, wrong)
			levelIs(t, b, state, tick, 0, wrong)
			whenIs(t, b, state, tick, n, 0, false, wrong)
		}
		mostIs(t, b, tick, 0, wrong)
		for _, list := range [][]ask{{{tick, n}}, {{tick, n}, {0, 1}}, {{0, 1}, {tick, n}}, {{api.MaxTick, 0}, {tick, n}, {0, 0}}, {{0, top}, {7, 0}, {3, 1}, {tick, n}}, {{tick, n}, {tick, n}}} {
			runIs(t, b, list, nil, wrong)
			fitsIs(t, b, list, 0, wrong)
		}
	}
}

// TestP121BucketsThatMayNotBe: ErrArg comes ahead of ErrRange, and ahead of ErrLong.
func TestP121BucketsThatMayNotBe(t *testing.T) {
	for _, b := range wrongOnes() {
		for _, tick := range []uint64{0, 1, api.MaxTick, api.MaxTick + 1, top} {
			refuses(t, b, tick, api.ErrArg)
			fitsIs(t, b, slices.Repeat([]ask{{tick, 1}}, api.MaxRecord+1), 0, api.ErrArg)
		}
		runIs(t, b, nil, nil, api.ErrArg)
		fitsIs(t, b, nil, 0, api.ErrArg)
	}
}

func TestP121TicksThatAreNone(t *testing.T) {
	for _, b := range buckets() {
		for _, tick := range noTicks() {
			refuses(t, b, tick, api.ErrRange)
		}
	}
}

// TestP121TheGreatestTick: it is one. How many tokens are asked for, and the state, may be any number.
func TestP121TheGreatestTick(t *testing.T) {
	for _, b := range buckets() {
		in := uint64(api.MaxTick) * b.Num
		takeIs(t, b, 0, api.MaxTick, 1, in+b.Den, true, api.OK)
		takeIs(t, b, top, api.MaxTick, top, top, false, api.OK)
		levelIs(t, b, 0, api.MaxTick, b.Burst, api.OK)
		levelIs(t, b, top, api.MaxTick, 0, api.OK)
		whenIs(t, b, 0, api.MaxTick, b.Burst, api.MaxTick, true, api.OK)
		whenIs(t, b, top, api.MaxTick, top, 0, false, api.OK)
		mostIs(t, b, api.MaxTick, mostSays(b, api.MaxTick).Uint64(), api.OK)
		runIs(t, b, []ask{{0, top}, {api.MaxTick, b.Burst}, {api.MaxTick, 1}}, []bool{false, true, false}, api.OK)
		fitsIs(t, b, []ask{{api.MaxTick, b.Burst}, {api.MaxTick, 1}}, 1, api.OK)
	}
}

func TestP122Examples(t *testing.T) {
	b := slow()
	for _, x := range []struct {
		state, now, n, want uint64
		ok                  bool
	}{
		{0, 0, 2, 20, true}, {20, 0, 1, 30, true}, {30, 0, 1, 30, false}, {30, 10, 1, 40, true}, {0, 100, 4, 0, false},
		{31, 0, 0, 31, false}, {5, 100, 0, 100, true}, {top, 0, 0, top, false},
	} {
		takeIs(t, b, x.state, x.now, x.n, x.want, x.ok, api.OK)
	}
	two := of(1, 10, 2)
	takeIs(t, two, 0, 10, 1, 20, true, api.OK)
	takeIs(t, two, 20, 0, 1, 20, false, api.OK)
	takeIs(t, two, 20, 5, 1, 20, false, api.OK)
	takeIs(t, two, 20, 20, 1, 30, true, api.OK)
	for _, x := range []struct{ state, now, want uint64 }{{0, 0, 3}, {25, 0, 0}, {25, 5, 1}, {99, 0, 0}} {
		levelIs(t, b, x.state, x.now, x.want, api.OK)
	}
	levelIs(t, b, 0, api.MaxTick+1, 0, api.ErrRange)
}

// TestP122OfSmallOnes: of all buckets of small numbers, all small states, ticks and numbers of tokens.
func TestP122OfSmallOnes(t *testing.T) {
	for _, b := range smallOnes() {
		for state := range uint64(30) {
			for now := range uint64(6) {
				levelIs(t, b, state, now, levelSays(b, state, now), api.OK)
				for n := range b.Burst + 2 {
					want, ok := takeSays(b, state, now, n)
					takeIs(t, b, state, now, n, want, ok, api.OK)
				}
			}
		}
	}
}

// TestP122Edges: of great buckets, too, about all numbers at which something changes.
func TestP122Edges(t *testing.T) {
	for _, b := range buckets() {
		for _, now := range ticks() {
			for _, n := range tokens(b) {
				for _, state := range states(b, now, n) {
					want, ok := takeSays(b, state, now, n)
					takeIs(t, b, state, now, n, want, ok, api.OK)
				}
			}
			for _, n := range []uint64{0, 1, b.Burst - 1, b.Burst} {
				for _, state := range states(b, now, n) {
					levelIs(t, b, state, now, levelSays(b, state, now), api.OK)
				}
			}
		}
	}
}

// TestP122PowersOfTwo: states and tokens of each number of bits; what goes round in one word is not let through.
func TestP122PowersOfTwo(t *testing.T) {
	for _, b := range []api.Bucket{slow(), of(1, 1, 1), of(1, 1, api.MaxBurst), of(api.MaxRate, api.MaxRate, api.MaxBurst), of(3, api.MaxRate-1, 5)} {
		for _, now := range []uint64{0, 1, api.MaxTick} {
			for _, n := range pow2() {
				for _, state := range []uint64{0, now * b.Num, 1 << 63, top} {
					want, ok := takeSays(b, state, now, n)
					takeIs(t, b, state, now, n, want, ok, api.OK)
					want, ok = takeSays(b, n, now, state)
					takeIs(t, b, n, now, state, want, ok, api.OK)
				}
				levelIs(t, b, n, now, levelSays(b, n, now), api.OK)
			}
		}
	}
}

func TestP123Examples(t *testing.T) {
	b := slow()
	whenIs(t, b, 30, 0, 1, 10, true, api.OK)
	whenIs(t, b, 30, 0, 3, 30, true, api.OK)
	whenIs(t, b, 30, 0, 4, 0, false, api.OK)
	whenIs(t, b, 0, 7, 3, 7, true, api.OK)
}

func TestP123OfSmallOnes(t *testing.T) {
	for _, b := range smallOnes() {
		for state := range uint64(30) {
			for _, now := range []uint64{0, 1, 5} {
				for n := range b.Burst + 2 {
					want, ok := whenSays(b, state, now, n)
					whenIs(t, b, state, now, n, want, ok, api.OK)
				}
			}
		}
	}
}

func TestP123Edges(t *testing.T) {
	for _, b := range buckets() {
		for _, now := range []uint64{0, 1, 1 << 16, 1<<39 + 5, api.MaxTick - 1, api.MaxTick} {
			for _, n := range []uint64{0, 1, b.Burst / 2, b.Burst - 1, b.Burst, b.Burst + 1, top / b.Den, top/b.Den + 1, top} {
				for _, state := range states(b, now, n) {
					want, ok := whenSays(b, state, now, n)
					whenIs(t, b, state, now, n, want, ok, api.OK)
				}
			}
		}
	}
}

// TestP123TheLastTick: with the last state by which there is a tick, and with the one behind it.
func TestP123TheLastTick(t *testing.T) {
	for _, b := range buckets() {
		for _, n := range []uint64{0, 1, b.Burst - 1, b.Burst} {
			last := api.MaxTick*b.Num + (b.Burst-n)*b.Den
			for _, now := range []uint64{0, api.MaxTick - 1, api.MaxTick} {
				whenIs(t, b, last, now, n, api.MaxTick, true, api.OK)
				whenIs(t, b, last+1, now, n, 0, false, api.OK)
				whenIs(t, b, last-b.Num, now, n, max(now, api.MaxTick-1), true, api.OK)
				whenIs(t, b, last-b.Num+1, now, n, api.MaxTick, true, api.OK)
			}
		}
	}
}

func TestP124Examples(t *testing.T) {
	mostIs(t, slow(), 0, 3, api.OK)
	mostIs(t, slow(), 9, 3, api.OK)
	mostIs(t, slow(), 25, 5, api.OK)
}

func TestP124Most(t *testing.T) {
	for _, b := range smallOnes() {
		for d := range uint64(50) {
			mostIs(t, b, d, mostSays(b, d).Uint64(), api.OK)
		}
	}
	for _, b := range buckets() {
		list := append(ticks(), about(0, api.MaxTick, b.Den, b.Num, b.Den/b.Num, b.Den*b.Num)...)
		for _, d := range list {
			mostIs(t, b, d, mostSays(b, d).Uint64(), api.OK)
		}
		for _, d := range pow2() {
			if d <= api.MaxTick {
				mostIs(t, b, d, mostSays(b, d).Uint64(), api.OK)
			}
		}
	}
	mostIs(t, of(api.MaxRate, 1, api.MaxBurst), api.MaxTick, 1<<56+1<<20, api.OK)
}

// runSays answers what Run answers of what may be, as the chapter says it.
func runSays(b api.Bucket, asks []ask) []bool {
	var let []bool
	state := uint64(0)
	for _, x := range asks {
		next, ok := takeSays(b, state, x[0], x[1])
		let, state = append(let, ok), next
	}
	return let
}

func TestP125Examples(t *testing.T) {
	runIs(t, slow(), []ask{{0, 3}, {0, 1}, {10, 1}, {5, 1}, {20, 1}}, []bool{true, false, true, false, true}, api.OK)
}

// TestP125Rows: of small numbers all rows of three; of great buckets rows at ticks that rise, fall and stay.
func TestP125Rows(t *testing.T) {
	for _, b := range []api.Bucket{slow(), of(3, 1, 1), of(3, 7, 4), of(2, 3, 2)} {
		rows(3, each([]uint64{0, 1, 4, 10}, []uint64{0, 1, b.Burst, b.Burst + 1}), func(row []ask) {
			runIs(t, b, row, runSays(b, row), api.OK)
		})
	}
	r := rand.New(rand.NewSource(125))
	for _, b := range buckets() {
		runIs(t, b, nil, nil, api.OK)
		runIs(t, b, []ask{}, nil, api.OK)
		// About so long a time it takes till all has flowed in again.
		span := int64(min(b.Burst*b.Den/b.Num+2, api.MaxTick))
		for _, tick := range []int64{1, 2, span, 3 * span} {
			row := append(drawn(r, 30, tick, int64(b.Burst)+2), ask{0, top}, ask{1, 1})
			down := byTick(row)
			slices.Reverse(down)
			for _, asks := range [][]ask{row, byTick(row), down} {
				runIs(t, b, asks, runSays(b, asks), api.OK)
			}
		}
	}
}

// TestP125Much: far more than Fits is handed.
func TestP125Much(t *testing.T) {
	asks := slices.Repeat([]ask{{10, 1}}, 100000)
	let, e := bucket.Run(of(1, 1, 70000), asks...)
	if e != api.OK || len(let) != len(asks) {
		t.Fatalf("%d, %v", len(let), e)
	}
	for i, ok := range let {
		if ok != (i < 70000) {
			t.Fatalf("at %d: %v", i, ok)
		}
	}
}

// TestP125KeepsOffWhatIsHandedIn, and off the room behind it; what it answers is new memory.
func TestP125KeepsOffWhatIsHandedIn(t *testing.T) {
	room := []ask{{5, 1}, {0, 3}, {20, 1}, {7, 7}, {1, 1}}
	kept := slices.Clone(room)
	first, _ := bucket.Run(slow(), room[:3]...)
	second, _ := bucket.Run(slow(), room[:3]...)
	bucket.Fits(slow(), room[:3]...)
	if !slices.Equal(room, kept) {
		t.Errorf("%v, not %v", room, kept)
	}
	want := runSays(slow(), room[:3])
	first[0], room[1] = !first[0], ask{}
	first = append(first[:1], !second[1])
	if !slices.Equal(second, want) || len(first) != 2 {
		t.Errorf("%v, not %v", second, want)
	}
}
