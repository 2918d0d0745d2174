package prefix_test

import (
	"math/rand"
	"slices"
	"testing"

	"patchbay/api"
	"patchbay/prefix"
)

// tree answers a prefix and all that it covers with so many bits more at most; each stands ahead of those that it covers.
func tree(top api.Prefix, deep int) []api.Prefix {
	list := []api.Prefix{top}
	if deep > 0 {
		list = append(list, tree(fromRow(top.Addr.V6, head(top)+"0"), deep-1)...)
		list = append(list, tree(fromRow(top.Addr.V6, head(top)+"1"), deep-1)...)
	}
	return list
}

// tops are where a tree so deep may stand: at the beginning, across the end of a byte, at the end.
func tops(deep int) []api.Prefix {
	a, b := row(four(10, 129, 66, 7)), row(six(0x2001, 0xdb8, 0, 1, 0, 0, 0xffff, 0x42))
	return []api.Prefix{
		fromRow(false, ""), fromRow(false, a[:7]), fromRow(false, a[:15]), fromRow(false, a[:32-deep]),
		fromRow(true, ""), fromRow(true, b[:31]), fromRow(true, b[:63]), fromRow(true, b[:128-deep]),
	}
}

// chosen answers those of the list whose bit is set.
func chosen(list []api.Prefix, which int) []api.Prefix {
	var some []api.Prefix
	for i, p := range list {
		if which>>i&1 == 1 {
			some = append(some, p)
		}
	}
	return some
}

// leaves answers which of the tree's smallest parts the prefixes have, a bit each.
func leaves(whole, some []api.Prefix) uint64 {
	deepest := slices.MaxFunc(whole, func(p, q api.Prefix) int { return p.Bits - q.Bits }).Bits
	var set uint64
	place := 0
	for _, leaf := range whole {
		if leaf.Bits < deepest {
			continue
		}
		if slices.ContainsFunc(some, func(p api.Prefix) bool { return coversSays(p, leaf) }) {
			set |= 1 << place
		}
		place++
	}
	return set
}

// merge is Merge of what may be merged.
func merge(t *testing.T, list ...api.Prefix) []api.Prefix {
	t.Helper()
	merged, e := prefix.Merge(list...)
	if e != api.OK {
		t.Fatalf("Merge(%v): %v", list, e)
	}
	return merged
}

// inOrder tells whether each stands ahead of the next one.
func inOrder(list []api.Prefix) bool {
	for i := range len(list) - 1 {
		if compareSays(list[i], list[i+1]) != -1 {
			return false
		}
	}
	return true
}

// TestP155Shortest holds each list of a small tree against all others.
func TestP155Shortest(t *testing.T) {
	for _, top := range tops(2) {
		whole := tree(top, 2)
		shortest := map[uint64][]api.Prefix{}
		for which := range 1 << len(whole) {
			list := chosen(whole, which)
			set := leaves(whole, list)
			if best, ok := shortest[set]; !ok || len(list) < len(best) {
				shortest[set] = list
			}
		}
		for which := range 1 << len(whole) {
			list := chosen(whole, which)
			got := merge(t, list...)
			if want := shortest[leaves(whole, list)]; !slices.Equal(got, want) || !inOrder(got) {
				t.Fatalf("Merge(%v): %v, not %v", list, got, want)
			}
		}
	}
}

// mergeSays answers what the merged list has of a prefix's addresses. Where it has all of them, it has them as one.
func mergeSays(top api.Prefix, list []api.Prefix) []api.Prefix {
	if slices.ContainsFunc(list, func(p api.Prefix) bool { return coversSays(p, top) }) {
		return []api.Prefix{top}
	}
	var within []api.Prefix
	for _, p := range list {
		if coversSays(top, p) {
			within = append(within, p)
		}
	}
	if within == nil {
		return nil
	}
	low, high := fromRow(top.Addr.V6, head(top)+"0"), fromRow(top.Addr.V6, head(top)+"1")
	a, b := mergeSays(low, within), mergeSays(high, within)
	if slices.Equal(a, []api.Prefix{low}) && slices.Equal(b, []api.Prefix{high}) {
		return []api.Prefix{top}
	}
	return append(a, b...)
}

// allSays answers what Merge answers of prefixes that may be.
func allSays(list []api.Prefix) []api.Prefix {
	return append(mergeSays(fromRow(false, ""), list), mergeSays(fromRow(true, ""), list)...)
}

func TestP155AllListsOfATree(t *testing.T) {
	for _, top := range tops(3) {
		whole := tree(top, 3)
		for which := 0; which < 1<<len(whole); which += 1 + which%5 {
			list := chosen(whole, which)
			if got, want := merge(t, list...), mergeSays(top, list); !slices.Equal(got, want) {
				t.Fatalf("Merge(%v): %v, not %v", list, got, want)
			}
		}
	}
}

// drawnList answers prefixes of both kinds, many of them near one another, some more than once.
func drawnList(r *rand.Rand) []api.Prefix {
	var list []api.Prefix
	for _, top := range tops(5) {
		if r.Intn(2) == 0 {
			continue
		}
		whole := tree(top, 5)
		for range r.Intn(50) {
			list = append(list, whole[1+r.Intn(len(whole)-1)])
		}
	}
	for range r.Intn(4) {
		list = append(list, drawn(r))
	}
	return shuffled(r, list)
}

// shuffled answers them in another order.
func shuffled(r *rand.Rand, list []api.Prefix) []api.Prefix {
	list = slices.Clone(list)
	r.Shuffle(len(list), func(i, j int) { list[i], list[j] = list[j], list[i] })
	return list
}

func TestP155DrawnLists(t *testing.T) {
	r := rand.New(rand.NewSource(155))
	for range 100 {
		list := drawnList(r)
		if got, want := merge(t, list...), allSays(list); !slices.Equal(got, want) {
			t.Fatalf("Merge(%v): %v, not %v", list, got, want)
		}
	}
}

func TestP155Examples(t *testing.T) {
	for _, x := range []struct{ list, want string }{
		{"", ""},
		{"::/0", "::/0"},
		{"10.128.0.0/9 10.0.0.0/9 10.5.0.0/16 ::/0 11.0.0.0/8", "10.0.0.0/7 ::/0"},
		{"11.0.0.0/8 12.0.0.0/8", "11.0.0.0/8 12.0.0.0/8"},
		{"8000::/1 ::/1 128.0.0.0/1 0.0.0.0/1", "0.0.0.0/0 ::/0"},
		{"10.0.0.0/9 10.128.0.0/9 10.200.0.0/16", "10.0.0.0/8"},
		{"0.0.0.0/1 128.0.0.0/2 192.0.0.0/3 224.0.0.0/3", "0.0.0.0/0"},
		{"1.2.3.4/32 1.2.3.5/32 1.2.3.4/32 1.2.3.6/32", "1.2.3.4/31 1.2.3.6/32"},
		{"255.255.255.255/32 255.255.255.254/32 ::/128 ::1/128", "255.255.255.254/31 ::/127"},
		// Beside one another, but of no one prefix.
		{"1.2.3.5/32 1.2.3.6/32", "1.2.3.5/32 1.2.3.6/32"},
		{"10.0.0.0/9 10.128.0.0/10", "10.0.0.0/9 10.128.0.0/10"},
		{"0.0.0.0/1 8000::/1", "0.0.0.0/1 8000::/1"},
		{"0.0.0.0/0 ::/1", "0.0.0.0/0 ::/1"},
	} {
		if got := merge(t, mustRead(t, x.list)...); !slices.Equal(got, mustRead(t, x.want)) {
			t.Errorf("Merge of %s: %v, not %s", x.list, got, x.want)
		}
	}
	if got, e := prefix.Merge(); len(got) != 0 || e != api.OK {
		t.Errorf("Merge of none: %v, %v", got, e)
	}
}

func TestP155OfWhatMayNotBe(t *testing.T) {
	list := mustRead(t, "10.0.0.0/8 11.0.0.0/8 ::/0 0.0.0.0/0")
	for _, p := range notPrefixes() {
		for i := range len(list) + 1 {
			if got, e := prefix.Merge(slices.Insert(slices.Clone(list), i, p)...); got != nil || e != api.ErrPrefix {
				t.Errorf("Merge with %v at %d: %v, %v", p, i, got, e)
			}
		}
		if got, e := prefix.Merge(p); got != nil || e != api.ErrPrefix {
			t.Errorf("Merge(%v): %v, %v", p, got, e)
		}
	}
}

func TestP155Many(t *testing.T) {
	r := rand.New(rand.NewSource(1552))
	var all, even, want []api.Prefix
	for i := range 1 << 16 {
		p := of(four(10, 9, byte(i>>8), byte(i)), 32)
		all = append(all, p)
		if i%2 == 0 {
			even = append(even, p)
		}
	}
	want = mustRead(t, "10.9.0.0/16")
	if got := merge(t, shuffled(r, all)...); !slices.Equal(got, want) {
		t.Errorf("all of a prefix: %d prefixes", len(got))
	}
	if got := merge(t, shuffled(r, even)...); !slices.Equal(got, even) {
		t.Errorf("every other one: %d prefixes", len(got))
	}
	// Each a half of what the others are together: one merges with the next one as long as there are bits.
	all = mustRead(t, "::/128")
	for bits := range 128 {
		all = append(all, of(flip(six(), bits), bits+1))
	}
	if got := merge(t, shuffled(r, all)...); !slices.Equal(got, mustRead(t, "::/0")) {
		t.Errorf("a stair: %v", got)
	}
	if got := merge(t, shuffled(r, all[1:])...); !slices.Equal(got, byOrder(all[1:])) {
		t.Errorf("a stair without its end: %v", got)
	}
}

// byOrder answers them in the order of prefixes.
func byOrder(list []api.Prefix) []api.Prefix {
	list = slices.Clone(list)
	slices.SortFunc(list, compareSays)
	return list
}

func TestP155KeepsOffWhatIsHandedIn(t *testing.T) {
	room := mustRead(t, "11.0.0.0/8 10.0.0.0/8 9.0.0.0/8 10.1.0.0/16 8.0.0.0/8")
	was := slices.Clone(room)
	a := merge(t, room[:3]...)
	b := merge(t, room[:3]...)
	if !slices.Equal(room, was) {
		t.Errorf("what was handed in is %v", room)
	}
	a[0] = of(six(), 0)
	if !slices.Equal(room, was) || !slices.Equal(b, mustRead(t, "9.0.0.0/8 10.0.0.0/7")) {
		t.Error("an answer shares with another one, or with what was handed in")
	}
	room[0] = of(six(), 1)
	if slices.Contains(b, room[0]) {
		t.Error("what was handed in is kept")
	}
	one := mustRead(t, "10.0.0.0/8")
	c := merge(t, one...)
	one[0] = of(six(), 0)
	if !slices.Equal(c, mustRead(t, "10.0.0.0/8")) {
		t.Error("a list of one is kept")
	}
}

func TestP158MergedStays(t *testing.T) {
	r := rand.New(rand.NewSource(158))
	for range 200 {
		list := drawnList(r)
		merged := merge(t, list...)
		if got := merge(t, merged...); !slices.Equal(got, merged) || !inOrder(got) {
			t.Fatalf("Merge(%v): %v", merged, got)
		}
		for i, p := range merged {
			for j, q := range merged {
				if i != j && prefix.Covers(p, q) {
					t.Fatalf("Merge(%v): %v covers %v", list, p, q)
				}
				if up, e := prefix.Of(p.Addr, p.Bits-1); e == api.OK {
					if low, high, _ := prefix.Halves(up); low == p && high == q {
						t.Fatalf("Merge(%v): %v and %v are halves", list, p, q)
					}
				}
			}
		}
	}
}

func TestP158WhatMakesNoDifference(t *testing.T) {
	r := rand.New(rand.NewSource(1582))
	for range 100 {
		list := drawnList(r)
		merged := merge(t, list...)
		if got := merge(t, shuffled(r, list)...); !slices.Equal(got, merged) {
			t.Fatalf("%v in another order: %v, not %v", list, got, merged)
		}
		more := slices.Clone(list)
		for _, p := range list {
			for range r.Intn(3) {
				more = append(more, p)
			}
		}
		if got := merge(t, shuffled(r, more)...); !slices.Equal(got, merged) {
			t.Fatalf("%v with some more than once: %v, not %v", list, got, merged)
		}
		if got := merge(t, shuffled(r, halved(r, list))...); !slices.Equal(got, merged) {
			t.Fatalf("%v with halves: %v, not %v", list, got, merged)
		}
	}
}

// halved answers the list with halves in place of some.
func halved(r *rand.Rand, list []api.Prefix) []api.Prefix {
	var parts []api.Prefix
	for _, p := range list {
		low, high, e := prefix.Halves(p)
		if e != api.OK || r.Intn(2) == 0 {
			parts = append(parts, p)
			continue
		}
		parts = append(parts, halved(r, []api.Prefix{low, high})...)
	}
	return parts
}

// TestP158WholesAndHalves: a prefix in place of its halves, all the way up and down.
func TestP158WholesAndHalves(t *testing.T) {
	for _, top := range tops(4) {
		list := []api.Prefix{top}
		for range 4 {
			var parts []api.Prefix
			for _, p := range list {
				low, high, e := prefix.Halves(p)
				if e != api.OK {
					t.Fatalf("Halves(%v): %v", p, e)
				}
				parts = append(parts, low, high)
			}
			list = parts
			if got := merge(t, list...); !slices.Equal(got, []api.Prefix{top}) {
				t.Fatalf("Merge(%v): %v", list, got)
			}
			for i := range list {
				rest := slices.Delete(slices.Clone(list), i, i+1)
				if got := merge(t, rest...); slices.ContainsFunc(got, func(p api.Prefix) bool { return prefix.Covers(p, list[i]) }) {
					t.Fatalf("Merge(%v) has %v", rest, list[i])
				}
			}
		}
	}
}
