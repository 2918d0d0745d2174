package tally_test

import (
	"runtime"
	"slices"
	"sync/atomic"
	"testing"

	"patchbay/api"
	"patchbay/plays"
	"patchbay/tally"
)

// gateOf tells the gate of a thread of a free run: none, or one that lets others run.
var gateOf = plays.Gates(runtime.Gosched)

// run is a tally that is used freely, and what is known of it beside.
type run struct {
	t     *testing.T
	tally *tally.Tally
	begun []atomic.Uint64 // what the Adds that were begun add, shard by shard
	done  []atomic.Uint64 // what those have added that were answered
	wrong atomic.Bool     // then nobody goes on
}

// begin answers a tally of so many shards.
func begin(t *testing.T, n int) *run {
	return &run{t: t, tally: made(t, n), begun: make([]atomic.Uint64, n), done: make([]atomic.Uint64, n)}
}

// fail ends in an error, once.
func (x *run) fail(text string, about ...any) {
	if !x.wrong.Swap(true) {
		x.t.Errorf(text, about...)
	}
}

// add adds to a shard, and answers what it was told.
func (x *run) add(g api.Gate, shard int, n uint64) uint64 {
	x.begun[shard].Add(n)
	least := x.done[shard].Load()
	v, e := x.tally.Add(g, shard, n)
	most := x.begun[shard].Load()
	x.done[shard].Add(n)
	if e != api.OK || v < least+n || v > most {
		x.fail("Add(%d, %d): %d, %v; not from %d to %d", shard, n, v, e, least+n, most)
	}
	return v
}

// listed answers such a list as it stands.
func listed(list []atomic.Uint64) []uint64 {
	var numbers []uint64
	for i := range list {
		numbers = append(numbers, list[i].Load())
	}
	return numbers
}

// look holds a Sum, and a Parts, against the words of P11.4; no shard falls.
func (x *run) look(g api.Gate, last []uint64) []uint64 {
	least := listed(x.done)
	v, e := x.tally.Sum(g)
	if most := listed(x.begun); e != api.OK || v < total(least) || v > total(most) || v < total(last) {
		x.fail("Sum: %d, %v, behind %d; not from %d to %d", v, e, total(last), total(least), total(most))
	}
	least = listed(x.done)
	list, e := x.tally.Parts(g)
	if most := listed(x.begun); e != api.OK || !within(list, least, most) || !within(list, last, most) {
		x.fail("Parts: %v, %v, behind %v; not from %v to %v", list, e, last, least, most)
		return last
	}
	return list
}

// ends holds a tally that nobody uses any more against the words of P11.4.
func (x *run) ends() {
	x.t.Helper()
	holds(x.t, "at the end", x.tally, listed(x.done)...)
}

// TestP114FreeSums: some add, each to a shard of its own, all to one, or all to all; others look meanwhile.
func TestP114FreeSums(t *testing.T) {
	const each = 3000
	for i, y := range []struct{ shards, adders, lookers int }{
		{1, 1, 1}, {1, 4, 2}, {2, 2, 2}, {8, 8, 0}, {8, 8, 2}, {3, 8, 1}, {64, 12, 4}, {16, 15, 1},
	} {
		for round := range 4 {
			x := begin(t, y.shards)
			var ended atomic.Int64
			plays.Freely(t, y.adders+y.lookers, func(k int) {
				g := gateOf(i+round, k)
				if k >= y.adders {
					last := zeros(y.shards)
					for ended.Load() < int64(y.adders) && !x.wrong.Load() {
						last = x.look(g, last)
						runtime.Gosched()
					}
					return
				}
				defer ended.Add(1)
				for j := 0; j < each && !x.wrong.Load(); j++ {
					x.add(g, (k+j*round)%y.shards, uint64(j%7)<<uint(k))
				}
			})
			x.ends()
		}
	}
}

// TestP114FreeAddsOfOne: each is told a number of its own.
func TestP114FreeAddsOfOne(t *testing.T) {
	const each = 2000
	for i := range 12 {
		n := 1 + i%3
		x := made(t, n)
		var got [8][3][]uint64
		plays.Freely(t, len(got), func(k int) {
			g := gateOf(i, k)
			for j := range each {
				shard := (j + k) % n
				v, _ := x.Add(g, shard, 1)
				got[k][shard] = append(got[k][shard], v)
			}
		})
		want := zeros(n)
		for shard := range n {
			var all []uint64
			for k := range got {
				if !slices.IsSorted(got[k][shard]) {
					t.Errorf("thread %d, shard %d: %v", k, shard, got[k][shard])
				}
				all = append(all, got[k][shard]...)
			}
			slices.Sort(all)
			for j, v := range all {
				if v != uint64(j)+1 {
					t.Fatalf("shard %d: of %d Adds of 1 one behind %d others says %d", shard, len(all), j, v)
				}
			}
			want[shard] = uint64(len(all))
		}
		holds(t, "at the end", x, want...)
	}
}

// TestP114FreeSumsThatGoRound: what was added is right at the end whatever goes round.
func TestP114FreeSumsThatGoRound(t *testing.T) {
	for i := range 12 {
		x := made(t, 4)
		var added [8][4]uint64
		plays.Freely(t, len(added), func(k int) {
			g := gateOf(i, k)
			for j := range 2000 {
				n := top / uint64(1+(j*k)%9)
				x.Add(g, (j+k)%4, n)
				added[k][(j+k)%4] += n
			}
		})
		want := zeros(4)
		for _, own := range added {
			for shard, n := range own {
				want[shard] += n
			}
		}
		holds(t, "at the end", x, want...)
	}
}

// numbersOf are the numbers that a thread of a free run has: rising, falling, or now this and now that.
func numbersOf(kind, k, each int) []uint64 {
	var list []uint64
	for j := range uint64(each) {
		v := j*16 + uint64(k)
		switch kind {
		case 1:
			v = top - v
		case 2:
			v = v * 0x9e3779b97f4a7c15 >> (j % 64)
		}
		list = append(list, v)
	}
	return list
}

// TestP114FreeHists: behind all Adds it is what came, and those of some threads, joined, are that, too.
func TestP114FreeHists(t *testing.T) {
	const each = 3000
	for i, threads := range slices.Repeat([]int{1, 2, 3, 8, 15}, 6) {
		kind, x, parts := i/5%3, filled(t), make([]*tally.Hist, threads)
		var ended atomic.Int64
		var all []uint64
		for k := range parts {
			parts[k] = filled(t)
			all = append(all, numbersOf(kind, k, each)...)
		}
		plays.Freely(t, threads+1, func(k int) {
			g := gateOf(i, k)
			if k == threads {
				for last := (api.Hist{}); ended.Load() < int64(threads); {
					last = rises(t, last, get().of(x, g))
					runtime.Gosched()
				}
				return
			}
			defer ended.Add(1)
			for _, v := range numbersOf(kind, k, each) {
				x.Add(g, v)
				parts[k].Add(g, v)
			}
		})
		has(t, "at the end", x, all...)
		var list []api.Hist
		for _, one := range parts {
			list = append(list, get().of(one, nil).hist)
		}
		joinIs(t, histOf(all...), list...)
	}
}

// rises ends in an error, unless a Get tells no count, and no greatest number, below the last one's; it answers what that tells.
func rises(t *testing.T, last api.Hist, now told) api.Hist {
	t.Helper()
	for k, n := range now.hist.Counts {
		if n < last.Counts[k] || now.hist.Max < last.Max || now.e != api.OK {
			t.Errorf("%v, %v behind %v", now.hist, now.e, last)
			break
		}
	}
	return now.hist
}

// TestP114FreeGreatest: behind an Add none that is less is told as the greatest number.
func TestP114FreeGreatest(t *testing.T) {
	for i := range 12 {
		x := filled(t)
		var wrong atomic.Bool
		plays.Freely(t, 8, func(k int) {
			g := gateOf(i, k)
			for _, v := range numbersOf(0, k, 1000) {
				x.Add(g, v)
				if h, e := x.Get(g); (e != api.OK || h.Max < v || h.Counts[bitsOf(v)] == 0) && !wrong.Swap(true) {
					t.Errorf("behind %d came: %v, %v", v, h, e)
				}
			}
		})
	}
}

// TestP114FreeHistsAllAtOnce: of many Hists one after the other, all threads add to one at the same time.
func TestP114FreeHistsAllAtOnce(t *testing.T) {
	const threads = 4
	for i := range 6 {
		list, come := make([]*tally.Hist, 4000), make([]atomic.Int64, 4000)
		for j := range list {
			list[j] = filled(t)
		}
		plays.Freely(t, threads, func(k int) {
			g := gateOf(i, k)
			for j, x := range list {
				come[j].Add(1)
				for come[j].Load() < threads {
					runtime.Gosched()
				}
				x.Add(g, uint64(2*k+1))
			}
		})
		for _, x := range list {
			has(t, "at the end", x, 1, 3, 5, 7)
		}
	}
}

func TestP114FreeAnswersAreThoseOfAnOrder(t *testing.T) {
	for _, x := range []play{
		{0, 1, nil, [][]ask{one(add(0, 5)), one(add(0, 7)), one(add(0, 9))}},
		{0, 2, nil, [][]ask{one(add(0, 5), add(1, 2)), one(sum(), parts())}},
		{0, 2, nil, [][]ask{one(add(1, 5), add(0, 2)), one(sum()), one(parts())}},
		{0, 3, []uint64{1, 2, top}, [][]ask{one(add(0, 5), add(2, 1)), one(add(1, 2), add(2, 2)), one(sum())}},
		{0, 2, nil, [][]ask{one(add(0, 5), sum()), one(add(1, 7), sum())}},
	} {
		plays.AsOfAnOrder(t, 500, gateOf, x.asks, func() asked { return asIs(made(t, x.n, x.ahead...)) })
	}
	for _, x := range []histPlay{
		{0, nil, [][]come{comes(5), comes(9)}},
		{0, []uint64{3}, [][]come{comes(3, 4), comes(5)}},
		{0, nil, [][]come{comes(top), comes(top)}},
	} {
		plays.AsOfAnOrder(t, 500, gateOf, x.asks, func() askedHist { return histIs(filled(t, x.ahead...)) })
	}
}
