package meter_test

import (
	"testing"

	"patchbay/api"
	"patchbay/bucket"
	"patchbay/meter"
	"patchbay/plays"
	"patchbay/turn"
)

// newIs ends in an error, unless there is a meter by that bucket just if that may be.
func newIs(t *testing.T, b api.Bucket, want api.Errno) {
	t.Helper()
	m, e := meter.New(b)
	if (m != nil) != (want == api.OK) || e != want {
		t.Errorf("New(%v): %v, %v, not %v", b, m, e, want)
	}
	if want == api.OK && m.Bucket() != b {
		t.Errorf("its bucket is %v, not %v", m.Bucket(), b)
	}
}

// numbers are the least one that may be, the greatest one, some between, and those beside that may not be.
func numbers(most uint64) (fit, unfit []uint64) {
	fit = []uint64{1, 2, 3, 255, 256, most / 2, most - 1, most}
	unfit = []uint64{0, most + 1, most + 2, 2 * most, 1 << 32, 1<<32 + 1, 1<<63 + 1, top - 1, top}
	return
}

func TestP131New(t *testing.T) {
	rates, wrongRates := numbers(api.MaxRate)
	bursts, wrongBursts := numbers(api.MaxBurst)
	for _, num := range rates {
		for _, den := range rates {
			for _, burst := range bursts {
				newIs(t, of(num, den, burst), api.OK)
			}
		}
	}
	for _, wrong := range wrongRates {
		for _, fits := range rates {
			newIs(t, of(wrong, fits, fits), api.ErrArg)
			newIs(t, of(fits, wrong, fits), api.ErrArg)
			newIs(t, of(wrong, wrong, fits), api.ErrArg)
		}
	}
	for _, wrong := range wrongBursts {
		for _, fits := range rates {
			newIs(t, of(fits, fits, wrong), api.ErrArg)
			newIs(t, of(0, fits, wrong), api.ErrArg)
			newIs(t, of(fits, top, wrong), api.ErrArg)
		}
	}
	newIs(t, api.Bucket{}, api.ErrArg)
	newIs(t, of(top, top, top), api.ErrArg)
}

// TestP131Begins: nothing is taken of a new one, at no tick, and its bucket stays what it was.
func TestP131Begins(t *testing.T) {
	for _, b := range buckets() {
		m := made(t, b)
		tells(t, "New", m, state(), number(0), load)
		for _, now := range []uint64{0, 1, 1000, api.MaxTick} {
			tells(t, "New", m, level(now), number(b.Burst), load)
		}
		is(t, "New", m, nil, take(5, b.Burst), let(true))
		is(t, "New", m, nil, take(5, b.Burst), let(false))
		if m.Bucket() != b {
			t.Errorf("the bucket is %v, not %v", m.Bucket(), b)
		}
	}
}

func TestP131BucketsAreTheirOwn(t *testing.T) {
	b := slow()
	m := made(t, b)
	b.Burst = 99
	own := m.Bucket()
	own.Den = 98
	if m.Bucket() != slow() {
		t.Errorf("the bucket is %v", m.Bucket())
	}
	is(t, "behind it", m, nil, take(0, 4), let(false))
	is(t, "behind it", m, nil, take(0, 3), let(true))
	is(t, "behind it", m, nil, state(), number(30))
}

func TestP132Examples(t *testing.T) {
	newIs(t, of(0, 1, 1), api.ErrArg)
	if b := (*meter.Meter)(nil).Bucket(); b != (api.Bucket{}) {
		t.Errorf("Bucket of nil: %v", b)
	}
	m := made(t, slow())
	is(t, "an example", m, nil, take(0, 2), let(true))
	is(t, "an example", m, nil, state(), number(20))
	is(t, "an example", m, nil, level(0), number(1))
	is(t, "an example", m, nil, take(0, 2), let(false))
	is(t, "an example", m, nil, take(0, 1), let(true))
	is(t, "an example", m, nil, level(10), number(1))
	is(t, "an example", m, nil, take(1<<40+1, 1), refused(api.ErrRange))
	is(t, "an example", m, nil, take(10, 0), let(true))
	is(t, "an example", m, nil, state(), number(30))
	tells(t, "an example", m, take(10, 1), let(true), load, cas)
	tells(t, "an example", m, take(10, 1), let(false), load)
}

// TestP132Operations: of all buckets, at ticks that go on and back again, about all numbers of tokens at which the answer changes.
func TestP132Operations(t *testing.T) {
	for _, b := range buckets() {
		m, want := made(t, b), uint64(0)
		for i := range uint64(200) {
			now := i * i % 97 * (b.Den*b.Burst/b.Num/16 + 1) % (api.MaxTick + 1)
			n, e := bucket.Level(b, want, now)
			if e != api.OK {
				t.Fatalf("bucket.Level(%v, %d, %d): %v", b, want, now, e)
			}
			tells(t, "Level", m, level(now), number(n), load)
			for _, n := range []uint64{n + 1, n / 2, top, n - n/2, 1, 0, b.Burst + 1, 1<<63 + n} {
				next, ok := stateBehind(t, b, want, take(now, n))
				marks := []api.Mark{load}
				if ok {
					marks = append(marks, cas)
				}
				tells(t, "of all buckets", m, take(now, n), let(ok), marks...)
				want = next
				tells(t, "of all buckets", m, state(), number(want), load)
			}
		}
	}
}

// TestP132TakesOfNothing: where the state does not become another one, it is swapped all the same.
func TestP132TakesOfNothing(t *testing.T) {
	for _, b := range buckets() {
		m := made(t, b)
		tells(t, "of a new one", m, take(0, 0), let(true), load, cas)
		tells(t, "of a new one", m, state(), number(0), load)
		tells(t, "later", m, take(7, 0), let(true), load, cas)
		tells(t, "later", m, state(), number(7*b.Num), load)
		tells(t, "the same", m, take(7, 0), let(true), load, cas)
		tells(t, "the same", m, state(), number(7*b.Num), load)
		is(t, "at the end", m, nil, take(api.MaxTick, b.Burst), let(true))
		full := api.MaxTick*b.Num + b.Burst*b.Den
		tells(t, "at the end", m, state(), number(full), load)
		tells(t, "full", m, take(api.MaxTick, 0), let(true), load, cas)
		tells(t, "full", m, take(api.MaxTick, 1), let(false), load)
		tells(t, "full, and a tick ahead", m, take(api.MaxTick-1, 0), let(false), load)
		tells(t, "full, and at the first tick", m, take(0, 0), let(false), load)
		tells(t, "full, and at the first tick", m, level(0), number(0), load)
		tells(t, "full", m, state(), number(full), load)
	}
}

// TestP132TicksThatAreNone: no operation is done, whatever is asked for.
func TestP132TicksThatAreNone(t *testing.T) {
	for _, b := range buckets() {
		m := made(t, b, take(0, 1), take(api.MaxTick, 0))
		want := max(api.MaxTick*b.Num, b.Den)
		for _, now := range late() {
			for _, n := range []uint64{0, 1, b.Burst, b.Burst + 1, top} {
				tells(t, "a tick that is none", m, take(now, n), refused(api.ErrRange))
				is(t, "a tick that is none", m, nil, take(now, n), refused(api.ErrRange))
			}
			tells(t, "a tick that is none", m, level(now), refused(api.ErrRange))
			is(t, "a tick that is none", m, nil, level(now), refused(api.ErrRange))
		}
		is(t, "behind them", m, nil, state(), number(want))
		tells(t, "the last tick", m, level(api.MaxTick), number(b.Burst), load)
		tells(t, "the last tick", m, take(api.MaxTick, b.Burst), let(true), load, cas)
	}
}

func TestP132MetersThatAreNone(t *testing.T) {
	whole := made(t, slow(), take(0, 2))
	for name, m := range map[string]*meter.Meter{"nil": nil, "a zero value": {}, "new": new(meter.Meter), "a copy": plays.Copied(whole)} {
		if b := m.Bucket(); b != (api.Bucket{}) {
			t.Errorf("%s: its bucket is %v", name, b)
		}
		asks := one(take(0, 0), take(0, 1), take(7, top), level(0), level(api.MaxTick), state())
		// ErrNil comes ahead of all else.
		for _, now := range late() {
			asks = append(asks, take(now, 1), level(now))
		}
		for _, a := range asks {
			tells(t, name, m, a, refused(api.ErrNil))
			is(t, name, m, nil, a, refused(api.ErrNil))
		}
	}
	is(t, "the whole one", whole, nil, state(), number(20))
	if whole.Bucket() != slow() {
		t.Errorf("the whole one: its bucket is %v", whole.Bucket())
	}
}

func TestP132MetersAreTheirOwn(t *testing.T) {
	a, b := made(t, slow()), made(t, slow())
	is(t, "a", a, nil, take(0, 3), let(true))
	is(t, "b", b, nil, level(0), number(3))
	is(t, "b", b, nil, take(0, 1), let(true))
	is(t, "a", a, nil, state(), number(30))
	is(t, "b", b, nil, state(), number(10))
}

// TestP132FreeCallsAnswerTheSame: a gate that is nil is told nothing, and one that is a nil pointer is no nil gate: it is told, and does nothing.
func TestP132FreeCallsAnswerTheSame(t *testing.T) {
	for _, b := range buckets() {
		free, under, nobody := made(t, b), made(t, b), made(t, b)
		for i := range uint64(300) {
			now := i * 3 % 50 * (b.Den*b.Burst/b.Num/20 + 1) % (api.MaxTick + 1)
			a := one(take(now, i%(b.Burst+2)), level(now), take(now, b.Burst/2), state(), take(now, 1), take(now+api.MaxTick, 1))[i%6]
			want := a.of(under, turn.NewNotes())
			is(t, "free", free, nil, a, want)
			is(t, "a nil pointer", nobody, (*turn.Notes)(nil), a, want)
		}
		want := state().of(under, nil)
		is(t, "free", free, nil, state(), want)
		is(t, "a nil pointer", nobody, nil, state(), want)
	}
}
