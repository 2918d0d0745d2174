package seq_test

import (
	"slices"
	"testing"

	"patchbay/api"
	"patchbay/plays"
	"patchbay/seq"
)

const top = 1<<64 - 1

// answer is what a Write, a Read or a Wait answers.
type answer struct {
	words   []uint64
	version uint64
	e       api.Errno
}

// same tells whether two answers are alike.
func (a answer) same(b answer) bool {
	return slices.Equal(a.words, b.words) && a.version == b.version && a.e == b.e
}

// wrote and read are what calls answer, as one.
func wrote(version uint64, e api.Errno) answer {
	return answer{nil, version, e}
}

func read(words []uint64, version uint64, e api.Errno) answer {
	return answer{words, version, e}
}

// is ends in an error, if what was answered is another answer.
func is(t *testing.T, name string, got, want answer) {
	t.Helper()
	if !got.same(want) {
		t.Errorf("%s: %v, not %v", name, got, want)
	}
}

// made answers a record of these words, and ends the test where there is none.
func made(t *testing.T, words ...uint64) *seq.Record {
	t.Helper()
	r, e := seq.New(words...)
	if r == nil || e != api.OK {
		t.Fatalf("New(%v): %v, %v", words, r, e)
	}
	return r
}

// recordIs ends in an error, unless a record has these words, of that version.
func recordIs(t *testing.T, name string, r *seq.Record, version uint64, words ...uint64) {
	t.Helper()
	is(t, name+": Read", read(r.Read(nil)), answer{words, version, api.OK})
	is(t, name+": Wait", read(r.Wait(nil, 1)), answer{words, version, api.OK})
	if n := r.Len(); n != len(words) {
		t.Errorf("%s: Len: %d, not %d", name, n, len(words))
	}
}

// several answers n words that are no other ones than those of another from.
func several(n int, from uint64) []uint64 {
	var words []uint64
	for i := range uint64(n) {
		words = append(words, from*1000+i)
	}
	return words
}

// load, cas, store are the marks of operations of that word.
var load, cas, store = plays.Load, plays.CAS, plays.Store

// writeSteps and readSteps are the operations of calls of a record of n words that nobody meets.
func writeSteps(n int) []api.Mark {
	marks := []api.Mark{load(0), cas(0)}
	for i := range n {
		marks = append(marks, store(1+i))
	}
	return append(marks, store(0))
}

func readSteps(n int) []api.Mark {
	marks := []api.Mark{load(0)}
	for i := range n {
		marks = append(marks, load(1+i))
	}
	return append(marks, load(0))
}

// tells ends in an error, if a call tells its gate of other operations than these, in this order.
func tells(t *testing.T, name string, call func(g api.Gate), want ...api.Mark) {
	t.Helper()
	if got := plays.Told(call); !slices.Equal(got, want) {
		t.Errorf("%s tells %v, not %v", name, got, want)
	}
}

// cutAt lets a thread do the call till it is cut off, behind so many operations of it.
func cutAt(t *testing.T, ops int, call func(g api.Gate)) {
	t.Helper()
	if !plays.CutOff(ops, call) {
		t.Fatalf("not cut off behind %d operations", ops)
	}
}

// stuck answers a record of n words, several of 1, whose Write of several of 2 was cut off ahead of its first Store: its version is odd for good.
func stuck(t *testing.T, n int) *seq.Record {
	t.Helper()
	r := made(t, several(n, 1)...)
	cutAt(t, 2, func(g api.Gate) { r.Write(g, several(n, 2)...) })
	return r
}
