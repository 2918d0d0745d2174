package rule_test

import (
	"math/rand"
	"slices"
	"sync"
	"testing"

	"patchbay/api"
	"patchbay/packet"
	"patchbay/rule"
)

// living answers what is left without the dead ones, and which numbers these had.
func living(l []api.Match, dead []int) (left []api.Match, numbers []int) {
	for i, m := range l {
		if !slices.Contains(dead, i) {
			left, numbers = append(left, m), append(numbers, i)
		}
	}
	return left, numbers
}

// Whatever stands behind the first one, or ahead of it and is not met, the match that is found is the same one.
func TestP195WhateverElse(t *testing.T) {
	r := rand.New(rand.NewSource(1951))
	for range 300 {
		list := drawnList(r, 1+r.Intn(20))
		rules := compiled(t, list...)
		for range 10 {
			x := drawnPack(r, one(r, list), r.Intn(2) == 0)
			at := rules.First(x.in, x.h)
			if at < 0 {
				continue
			}
			if short := compiled(t, list[:at]...).First(x.in, x.h); short != -1 {
				t.Fatalf("First %d, and %d of those ahead of it", at, short)
			}
			behind := slices.Concat(list[:at+1], drawnList(r, r.Intn(9)))
			if got := compiled(t, behind...).First(x.in, x.h); got != at {
				t.Fatalf("First %d, and %d with others behind", at, got)
			}
			var ahead []api.Match
			for _, m := range drawnList(r, r.Intn(9)) {
				if !rule.Meets(m, x.in, x.h) {
					ahead = append(ahead, m)
				}
			}
			if got := compiled(t, append(ahead, list...)...).First(x.in, x.h); got != at+len(ahead) {
				t.Fatalf("First %d, and %d with %d ahead that are not met", at, got, len(ahead))
			}
		}
	}
}

// All usual packets of the small world: none is told a dead one, and all find the same match without these.
func TestP195WithoutTheDead(t *testing.T) {
	w := small()
	r := rand.New(rand.NewSource(1952))
	some := 0
	for _, n := range []int{1, 2, 5, 10, 20, 40, 256} {
		for range 4 {
			var list []api.Match
			for range n {
				list = append(list, one(r, w.matches))
			}
			some += sameWithout(t, list, w.packs)
		}
	}
	if some < 500 {
		t.Errorf("only %d were dead", some)
	}
}

// sameWithout tells of packets that are told a dead one, or find another match without these. It answers how many are dead.
func sameWithout(t *testing.T, list []api.Match, packs []pack) int {
	t.Helper()
	rules := compiled(t, list...)
	dead := rules.Dead()
	left, numbers := living(list, dead)
	less := compiled(t, left...)
	if again := less.Dead(); len(again) > 0 {
		t.Fatalf("without the dead ones %v are dead", again)
	}
	for _, x := range packs {
		at, other := rules.First(x.in, x.h), less.First(x.in, x.h)
		if slices.Contains(dead, at) {
			t.Fatalf("%+v is told %d, which is dead", x, at)
		}
		if at >= 0 != (other >= 0) || at >= 0 && numbers[other] != at {
			t.Fatalf("%+v: First %d, and %d without the dead ones", x, at, other)
		}
	}
	return len(dead)
}

func TestP195Drawn(t *testing.T) {
	r := rand.New(rand.NewSource(1953))
	some := 0
	for range 100 {
		list := drawnList(r, 1+r.Intn(60))
		var packs []pack
		for range 100 {
			x := drawnPack(r, one(r, list), true)
			if e := packet.Check(x.h); e != api.OK || x.in < 0 || x.in > api.MaxPort {
				t.Fatalf("%+v is not usual: %v", x, e)
			}
			packs = append(packs, x)
		}
		some += sameWithout(t, list, packs)
	}
	if some < 300 {
		t.Errorf("only %d were dead", some)
	}
}

// A header counts as usual of whatever length its packet is.
func TestP195Long(t *testing.T) {
	rules := compiled(t, dstPort(17, 50, 60), api.Match{}, proto(6))
	for _, n := range []int{0, 1, 2020, 2021, 1 << 20} {
		for p, want := range map[uint8]int{17: 0, 6: 1} {
			if got := rules.First(0, api.Header{Proto: p, DstPort: 55, Data: make([]byte, n)}); got != want {
				t.Errorf("First of protocol %d with %d bytes: %d", p, n, got)
			}
		}
	}
}

// Asked again, and by many threads at a time, they answer the same: they do not change.
func TestP195Again(t *testing.T) {
	r := rand.New(rand.NewSource(1954))
	list := drawnList(r, 256)
	rules := compiled(t, list...)
	dead := rules.Dead()
	var packs []pack
	var want []int
	for range 300 {
		x := drawnPack(r, one(r, list), r.Intn(2) == 0)
		packs, want = append(packs, x), append(want, firstOf(list, x))
	}
	var wrong [8]int
	var wait sync.WaitGroup
	for k := range wrong {
		wait.Go(func() {
			for i, x := range packs {
				if rules.First(x.in, x.h) != want[i] {
					wrong[k]++
				}
			}
			if !slices.Equal(rules.Dead(), dead) || rules.Len() != 256 {
				wrong[k]++
			}
		})
	}
	wait.Wait()
	if wrong != [8]int{} {
		t.Errorf("wrong answers: %v", wrong)
	}
}

// told is what Covers and Apart tell of each two matches of the small world: of each match, by its number, which it covers, and from which it is apart.
type told struct{ covers, apart []set }

var all = sync.OnceValue(func() told {
	var x told
	w := small()
	for _, m := range w.matches {
		covers, apart := newSet(len(w.matches)), newSet(len(w.matches))
		for j, n := range w.matches {
			if rule.Covers(m, n) {
				covers.put(j)
			}
			if rule.Apart(m, n) {
				apart.put(j)
			}
		}
		x.covers, x.apart = append(x.covers, covers), append(x.apart, apart)
	}
	return x
})

func (s set) has(i int) bool { return s[i/64]>>(i%64)&1 == 1 }

func TestP196OfTheSmallWorld(t *testing.T) {
	x, matches := all(), small().matches
	chains := 0
	for i, m := range matches {
		if !x.covers[i].has(i) || x.apart[i].has(i) {
			t.Fatalf("%+v does not cover itself, or is apart from itself", m)
		}
		if !x.covers[i].apart(x.apart[i]) {
			t.Fatalf("%+v covers what it is apart from", m)
		}
		for j, n := range matches {
			if x.apart[i].has(j) != x.apart[j].has(i) {
				t.Fatalf("Apart(%+v, %+v) is not the other way round", m, n)
			}
			if !x.covers[i].has(j) {
				continue
			}
			if !x.covers[j].within(x.covers[i]) {
				t.Fatalf("%+v covers %+v, and not all that this one covers", m, n)
			}
			if !x.apart[i].within(x.apart[j]) {
				t.Fatalf("%+v covers %+v, which is not apart from all from which it is", m, n)
			}
			chains++
		}
	}
	if chains < 2*len(matches) {
		t.Errorf("only %d times one covers another one", chains)
	}
}

// laws tells of three matches for which what follows does not hold.
func laws(t *testing.T, m, n, o api.Match) {
	t.Helper()
	if !rule.Covers(m, m) || rule.Apart(m, m) {
		t.Fatalf("%+v does not cover itself, or is apart from itself", m)
	}
	if rule.Covers(m, n) && rule.Covers(n, o) && !rule.Covers(m, o) {
		t.Fatalf("%+v covers %+v, that one covers %+v", m, n, o)
	}
	if rule.Apart(m, n) != rule.Apart(n, m) || rule.Apart(m, n) && (rule.Covers(m, n) || rule.Covers(n, m)) {
		t.Fatalf("%+v and %+v: apart %v, %v, covered %v, %v", m, n, rule.Apart(m, n), rule.Apart(n, m), rule.Covers(m, n), rule.Covers(n, m))
	}
	if rule.Covers(m, n) && rule.Apart(m, o) && !rule.Apart(n, o) {
		t.Fatalf("%+v covers %+v, and is apart from %+v", m, n, o)
	}
}

func TestP196Drawn(t *testing.T) {
	r := rand.New(rand.NewSource(1961))
	for range 10000 {
		m := drawnMatch(r)
		n := drawnNear(r, m)
		list := []api.Match{m, n, drawnNear(r, n)}
		for _, i := range []int{0, 1, 2} {
			for _, j := range []int{0, 1, 2} {
				for _, k := range []int{0, 1, 2} {
					laws(t, list[i], list[j], list[k])
				}
			}
		}
	}
}

// Where Covers says no there is a usual packet that says why, and where Apart says no, too, as Meets tells it; where they say yes no packet near by says otherwise.
func TestP196Witnesses(t *testing.T) {
	r := rand.New(rand.NewSource(1962))
	for range 10000 {
		m := drawnMatch(r)
		n := drawnNear(r, m)
		if r.Intn(2) == 0 {
			m, n = n, m
		}
		covers, apart := rule.Covers(m, n), rule.Apart(m, n)
		if x, ok := found(m, n, false); !covers && (!ok || packet.Check(x.h) != api.OK || !rule.Meets(n, x.in, x.h) || rule.Meets(m, x.in, x.h)) {
			t.Fatalf("Covers(%+v, %+v) is false, and %+v, %v does not say why", m, n, x, ok)
		}
		if x, ok := found(m, n, true); !apart && (!ok || packet.Check(x.h) != api.OK || !rule.Meets(n, x.in, x.h) || !rule.Meets(m, x.in, x.h)) {
			t.Fatalf("Apart(%+v, %+v) is false, and %+v, %v does not say why", m, n, x, ok)
		}
		for range 20 {
			x := drawnPack(r, one(r, []api.Match{m, n}), true)
			one, other := rule.Meets(m, x.in, x.h), rule.Meets(n, x.in, x.h)
			if covers && other && !one || apart && one && other {
				t.Fatalf("%+v meets %+v: %v, %+v: %v; Covers %v, Apart %v", x, m, one, n, other, covers, apart)
			}
		}
	}
}
