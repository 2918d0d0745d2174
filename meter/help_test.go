package meter_test

import (
	"slices"
	"testing"

	"patchbay/api"
	"patchbay/bucket"
	"patchbay/meter"
	"patchbay/plays"
)

const top = 1<<64 - 1

// The calls of a meter that take a gate.
const (
	doTake = iota
	doLevel
	doState
)

// ask is such a call: of a Take and a Level the tick, of a Take how many tokens.
type ask struct {
	call   int
	now, n uint64
}

func take(now, n uint64) ask { return ask{doTake, now, n} }
func level(now uint64) ask   { return ask{call: doLevel, now: now} }
func state() ask             { return ask{call: doState} }

// answer is what such a call answers: a Take whether tokens were let through, the others a number.
type answer struct {
	let bool
	v   uint64
	e   api.Errno
}

// let, number and refused are such answers.
func let(ok bool) answer          { return answer{let: ok} }
func number(v uint64) answer      { return answer{v: v} }
func refused(e api.Errno) answer  { return answer{e: e} }
func sameAnswer(a, b answer) bool { return a == b }

// one and repeated are the calls of one thread, one after the other: these; so many times the same.
func one(asks ...ask) []ask       { return asks }
func repeated(a ask, n int) []ask { return slices.Repeat(one(a), n) }

// taker is a meter, or the twin of one.
type taker interface {
	Take(g api.Gate, now, n uint64) (bool, api.Errno)
	Level(g api.Gate, now uint64) (uint64, api.Errno)
	State(g api.Gate) (uint64, api.Errno)
}

// of asks a taker.
func (a ask) of(o taker, g api.Gate) (x answer) {
	switch a.call {
	case doTake:
		x.let, x.e = o.Take(g, a.now, a.n)
	case doLevel:
		x.v, x.e = o.Level(g, a.now)
	case doState:
		x.v, x.e = o.State(g)
	}
	return x
}

// asked is what is asked so in plays.
type asked = plays.Object[ask, answer]

// asIs answers a taker as one that is asked in plays.
func asIs(o taker) asked {
	return asked{
		Of:    func(a ask, g api.Gate) answer { return a.of(o, g) },
		Words: func() []uint64 { return []uint64{state().of(o, nil).v} },
		Same:  sameAnswer,
	}
}

// load and cas are the marks of the two operations that there are.
var load, cas = plays.Load(0), plays.CAS(0)

// of answers a bucket.
func of(num, den, burst uint64) api.Bucket {
	return api.Bucket{Num: num, Den: den, Burst: burst}
}

// slow is the bucket of the chapter's examples: a token each 10 ticks, three at a time.
func slow() api.Bucket { return of(1, 10, 3) }

// buckets are some of the least and of the greatest numbers, and some between.
func buckets() []api.Bucket {
	return []api.Bucket{
		slow(), of(3, 1, 1), of(3, 7, 4), of(7, 3, 5), of(1, 1, 1), of(1, 1, api.MaxBurst), of(1, api.MaxRate, 1), of(api.MaxRate, 1, 1),
		of(api.MaxRate, api.MaxRate, 1), of(1, api.MaxRate, api.MaxBurst), of(api.MaxRate, 1, api.MaxBurst), of(api.MaxRate, api.MaxRate, api.MaxBurst),
		of(api.MaxRate-1, api.MaxRate, api.MaxBurst-1), of(api.MaxRate, api.MaxRate-1, 2), of(40961, 12289, 77777),
	}
}

// late are ticks that are none.
func late() []uint64 {
	return []uint64{api.MaxTick + 1, api.MaxTick + 2, 2*api.MaxTick - 1, 2 * api.MaxTick, 1 << 48, 1 << 63, top - 1, top}
}

// made answers a meter of which that is taken ahead, and ends the test where there is none, or not all of it is let through.
func made(t *testing.T, b api.Bucket, ahead ...ask) *meter.Meter {
	t.Helper()
	m, e := meter.New(b)
	if m == nil || e != api.OK {
		t.Fatalf("New(%v): %v, %v", b, m, e)
	}
	for _, a := range ahead {
		if got := a.of(m, nil); got != let(true) {
			t.Fatalf("%v, ahead: %v: %v", b, a, got)
		}
	}
	return m
}

// stateBehind answers the state behind these Takes, one behind the other, from that one on, and whether the last one was let through.
func stateBehind(t *testing.T, b api.Bucket, from uint64, takes ...ask) (uint64, bool) {
	t.Helper()
	ok := false
	for _, a := range takes {
		var e api.Errno
		if from, ok, e = bucket.Take(b, from, a.now, a.n); e != api.OK {
			t.Fatalf("bucket.Take(%v, %d, %v): %v", b, from, a, e)
		}
	}
	return from, ok
}

// is ends in an error, if a meter answers otherwise.
func is(t *testing.T, name string, m *meter.Meter, g api.Gate, a ask, want answer) {
	t.Helper()
	plays.Is(t, name, asIs(m), g, a, want)
}

// tells ends in an error, if a meter answers otherwise, or tells its gate of other operations.
func tells(t *testing.T, name string, m *meter.Meter, a ask, want answer, marks ...api.Mark) {
	t.Helper()
	plays.Tells(t, name, asIs(m), a, want, marks...)
}
