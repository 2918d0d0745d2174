package seq_test

import (
	"runtime"
	"slices"
	"testing"

	"patchbay/api"
	"patchbay/plays"
	"patchbay/seq"
)

const (
	manyThreads = 8
	manyCalls   = 10000
)

// free runs as many threads at a time, each with its number.
func free(t *testing.T, body func(k int)) {
	t.Helper()
	if e := plays.Free(manyThreads, body); e != api.OK {
		t.Fatalf("Free: %v", e)
	}
}

// gateOf is none for all but a few threads.
func gateOf(k int) api.Gate {
	if k%4 == 3 {
		return plays.Yielding(runtime.Gosched)
	}
	return nil
}

// seen is what a thread wrote, or read: several words from that number, of that version.
type seen struct{ version, from uint64 }

// look answers what a Read or a Wait tells; where it was not whole it is an error.
func look(t *testing.T, n int, a answer) (seen, bool) {
	if a.e == api.ErrTorn {
		is(t, "torn", a, answer{nil, 0, api.ErrTorn})
		return seen{}, false
	}
	if a.e != api.OK || len(a.words) != n || a.version%2 != 0 || !slices.Equal(a.words, several(n, a.words[0]/1000)) {
		t.Errorf("%v", a)
		return seen{}, false
	}
	return seen{a.version, a.words[0] / 1000}, true
}

// hold holds all that was read against what was written: of each version one Write answered.
func hold(t *testing.T, n int, r *seq.Record, wrote, read []seen) {
	t.Helper()
	of := map[uint64]uint64{0: 0}
	for _, x := range wrote {
		if _, twice := of[x.version]; twice || x.version%2 != 0 {
			t.Errorf("the version %d, twice: %v", x.version, twice)
		}
		of[x.version] = x.from
	}
	for _, x := range read {
		if from, ok := of[x.version]; !ok || from != x.from {
			t.Fatalf("the version %d: %d was read, %d was written", x.version, x.from, from)
		}
	}
	// Each Write raises the version by two, and none but those that answered has.
	last := 2 * uint64(len(wrote))
	recordIs(t, "at the end", r, last, several(n, of[last])...)
}

func TestP55FreeWritesAndReads(t *testing.T) {
	for _, n := range []int{1, 2, 5, api.MaxWords} {
		r := made(t, several(n, 0)...)
		var wroteAll, readAll [manyThreads][]seen
		free(t, func(k int) {
			g, last := gateOf(k), uint64(0)
			for i := range manyCalls {
				from := uint64(k*manyCalls + i + 1)
				if a := wrote(r.Write(g, several(n, from)...)); a.e == api.OK {
					if a.version <= last {
						t.Errorf("the version %d behind %d", a.version, last)
					}
					last = a.version
					wroteAll[k] = append(wroteAll[k], seen{a.version, from})
				} else {
					is(t, "refused", a, answer{nil, 0, api.ErrBusy})
				}
				if x, ok := look(t, n, ask{tries: i % 3}.of(r, g)); ok {
					if x.version < last {
						t.Errorf("the version %d was read behind %d", x.version, last)
					}
					last = x.version
					readAll[k] = append(readAll[k], x)
				}
			}
		})
		hold(t, n, r, slices.Concat(wroteAll[:]...), slices.Concat(readAll[:]...))
	}
}

func TestP55FreeReadsBesideOneThatWrites(t *testing.T) {
	for _, n := range []int{1, 3, api.MaxWords} {
		r := made(t, several(n, 0)...)
		var wroteAll []seen
		var readAll [manyThreads][]seen
		free(t, func(k int) {
			for i := range uint64(manyCalls) {
				if k == 0 {
					// Nobody else writes: it is never refused, and Reads do not hinder it.
					is(t, "Write", wrote(r.Write(nil, several(n, i+1)...)), answer{nil, 2*i + 2, api.OK})
					wroteAll = append(wroteAll, seen{2*i + 2, i + 1})
				} else if x, ok := look(t, n, ask{tries: k % 3}.of(r, gateOf(k))); ok {
					readAll[k] = append(readAll[k], x)
				}
			}
		})
		for _, list := range readAll {
			if !slices.IsSortedFunc(list, func(a, b seen) int { return int(a.version) - int(b.version) }) {
				t.Error("versions that were read fall")
			}
		}
		hold(t, n, r, wroteAll, slices.Concat(readAll[:]...))
	}
}

func TestP55FreeReadsAlone(t *testing.T) {
	for _, n := range []int{1, api.MaxWords} {
		r := made(t, several(n, 0)...)
		r.Write(nil, several(n, 1)...)
		free(t, func(k int) {
			for i := range manyCalls {
				is(t, "Read", ask{tries: i % 3}.of(r, gateOf(k)), answer{several(n, 1), 2, api.OK})
			}
		})
	}
}
