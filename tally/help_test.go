package tally_test

import (
	"slices"
	"testing"

	"patchbay/api"
	"patchbay/plays"
	"patchbay/tally"
)

const top = 1<<64 - 1

// The calls of a tally.
const (
	doAdd = iota
	doSum
	doParts
)

// ask is a call of a tally: of an Add the shard, and what is added.
type ask struct {
	call  int
	shard int
	n     uint64
}

func add(shard int, n uint64) ask { return ask{doAdd, shard, n} }
func sum() ask                    { return ask{call: doSum} }
func parts() ask                  { return ask{call: doParts} }

// answer is what a call of a tally answers: of a Parts a list.
type answer struct {
	v    uint64
	list []uint64
	e    api.Errno
}

// number, shards and refused are such answers.
func number(v uint64) answer       { return answer{v: v} }
func shards(list ...uint64) answer { return answer{list: list} }
func refused(e api.Errno) answer   { return answer{e: e} }

// sameAnswer tells whether two of them are alike.
func sameAnswer(a, b answer) bool {
	return a.v == b.v && slices.Equal(a.list, b.list) && a.e == b.e
}

// one and repeated are the calls of one thread, one after the other: these; so many times the same.
func one(asks ...ask) []ask       { return asks }
func repeated(a ask, n int) []ask { return slices.Repeat(one(a), n) }

// zeros are so many shards to which nothing was added.
func zeros(n int) []uint64 { return make([]uint64, n) }

// counter is a tally, or the twin of one.
type counter interface {
	Add(g api.Gate, shard int, n uint64) (uint64, api.Errno)
	Sum(g api.Gate) (uint64, api.Errno)
	Parts(g api.Gate) ([]uint64, api.Errno)
}

// of asks a counter.
func (a ask) of(o counter, g api.Gate) (x answer) {
	switch a.call {
	case doAdd:
		x.v, x.e = o.Add(g, a.shard, a.n)
	case doSum:
		x.v, x.e = o.Sum(g)
	case doParts:
		x.list, x.e = o.Parts(g)
	}
	return x
}

// come is a call of a Hist: a number that comes, or a Get.
type come struct {
	get bool
	v   uint64
}

func get() come { return come{get: true} }

// comes are Adds of these numbers, one after the other.
func comes(numbers ...uint64) []come {
	var list []come
	for _, v := range numbers {
		list = append(list, come{v: v})
	}
	return list
}

// told is what a call of a Hist answers.
type told struct {
	hist api.Hist
	e    api.Errno
}

func sameTold(a, b told) bool { return a == b }

// histogram is a Hist, or the twin of one.
type histogram interface {
	Add(g api.Gate, v uint64) api.Errno
	Get(g api.Gate) (api.Hist, api.Errno)
}

// of asks a histogram.
func (a come) of(o histogram, g api.Gate) (x told) {
	if a.get {
		x.hist, x.e = o.Get(g)
	} else {
		x.e = o.Add(g, a.v)
	}
	return x
}

// bitsOf answers how many bits a number has, as the chapter says it: 0 has none, 1 one, 2 and 3 two.
func bitsOf(v uint64) int {
	n := 0
	for ; v > 0; v /= 2 {
		n++
	}
	return n
}

// histOf answers what came, when these numbers came.
func histOf(numbers ...uint64) api.Hist {
	var h api.Hist
	for _, v := range numbers {
		h.Counts[bitsOf(v)]++
		h.Sum += v
		h.Max = max(h.Max, v)
	}
	return h
}

// edges are numbers about each number of bits.
func edges() []uint64 {
	list := []uint64{0, top}
	for k := range 64 {
		list = append(list, 1<<k-1, 1<<k, 1<<k+1)
	}
	slices.Sort(list)
	return slices.Compact(list)
}

// load, added and cas are the marks of operations of that word.
var load, added, cas = plays.Load, plays.Add, plays.CAS

// loads are the operations of a call that looks at so many words.
func loads(words int) []api.Mark {
	var marks []api.Mark
	for word := range words {
		marks = append(marks, load(word))
	}
	return marks
}

// The words of a Hist behind its counts.
const (
	theSum      = 65
	theGreatest = 66
)

// risingSteps and lesserSteps are the operations of an Add that meets nobody, of a number of so many bits: of one that is above all, and of one that is not.
func risingSteps(bits int) []api.Mark { return append(lesserSteps(bits), cas(theGreatest)) }
func lesserSteps(bits int) []api.Mark {
	return []api.Mark{added(bits), added(theSum), load(theGreatest)}
}

// made answers a tally of so many shards, to which that was added, shard by shard, and ends the test where there is none.
func made(t *testing.T, n int, ahead ...uint64) *tally.Tally {
	t.Helper()
	x, e := tally.New(n)
	if x == nil || e != api.OK {
		t.Fatalf("New(%d): %v, %v", n, x, e)
	}
	for shard, v := range ahead {
		plays.Is(t, "the start", asIs(x), nil, add(shard, v), number(v))
	}
	return x
}

// filled answers a Hist to which these numbers came, and ends the test where there is none.
func filled(t *testing.T, numbers ...uint64) *tally.Hist {
	t.Helper()
	x := tally.NewHist()
	if x == nil {
		t.Fatalf("NewHist: nil")
	}
	for _, a := range comes(numbers...) {
		plays.Is(t, "the start", histIs(x), nil, a, told{})
	}
	return x
}

// The two kinds of objects that are asked in plays.
type (
	asked     = plays.Object[ask, answer]
	askedHist = plays.Object[come, told]
)

// asIs answers a counter as one that is asked in plays.
func asIs(o counter) asked {
	return asked{
		Of:    func(a ask, g api.Gate) answer { return a.of(o, g) },
		Words: func() []uint64 { return parts().of(o, nil).list },
		Same:  sameAnswer,
	}
}

// histIs answers a histogram as one that is asked in plays.
func histIs(o histogram) askedHist {
	return askedHist{
		Of: func(a come, g api.Gate) told { return a.of(o, g) },
		Words: func() []uint64 {
			h := get().of(o, nil).hist
			return append(h.Counts[:], h.Sum, h.Max)
		},
		Same: sameTold,
	}
}

// holds ends in an error, unless just that was added to a tally, shard by shard.
func holds(t *testing.T, name string, x *tally.Tally, list ...uint64) {
	t.Helper()
	var all uint64
	for _, v := range list {
		all += v
	}
	plays.Is(t, name, asIs(x), nil, parts(), shards(list...))
	plays.Is(t, name, asIs(x), nil, sum(), number(all))
}

// has ends in an error, unless just these numbers came to a Hist.
func has(t *testing.T, name string, x *tally.Hist, numbers ...uint64) {
	t.Helper()
	plays.Is(t, name, histIs(x), nil, get(), told{hist: histOf(numbers...)})
}
