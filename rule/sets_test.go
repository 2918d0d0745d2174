package rule_test

import (
	"math/rand"
	"testing"

	"patchbay/api"
	"patchbay/packet"
	"patchbay/rule"
)

// sets tells of a Covers(m, n), or an Apart of the two, either way, that does not answer that.
func sets(t *testing.T, m, n api.Match, covers, apart bool) {
	t.Helper()
	if got := rule.Covers(m, n); got != covers {
		t.Fatalf("Covers(%+v, %+v): %v", m, n, got)
	}
	if one, other := rule.Apart(m, n), rule.Apart(n, m); one != apart || other != apart {
		t.Fatalf("Apart(%+v, %+v): %v, and the other way round %v", m, n, one, other)
	}
}

func TestP192Examples(t *testing.T) {
	none := api.Match{}
	sets(t, none, in(4, 9), true, false)
	sets(t, in(0, 255), none, true, false)
	sets(t, src(read("0.0.0.0/0")), dst(read("10.0.0.0/8")), true, false)
	sets(t, src(read("0.0.0.0/0")), none, false, false)
	sets(t, src(read("10.0.0.0/8")), src(read("10.1.0.0/16")), true, false)
	sets(t, src(read("10.0.0.0/8")), dst(read("::/0")), false, true)
	sets(t, proto(6), proto(17), false, true)
	for _, m := range small().matches {
		sets(t, none, m, true, false)
	}
}

// The packets of the small world are usual ones, and each of its matches is met by one.
func TestP192Usual(t *testing.T) {
	w := small()
	for _, x := range w.packs {
		if e := packet.Check(x.h); e != api.OK || x.in < 0 || x.in > api.MaxPort {
			t.Fatalf("%+v is not usual: %v", x, e)
		}
	}
	for i, m := range w.matches {
		if w.met[i].apart(w.met[0]) || rule.Check(m) != api.OK {
			t.Fatalf("nothing meets %+v", m)
		}
	}
	if len(w.matches) < 1000 || w.matches[0] != (api.Match{}) {
		t.Fatalf("%d matches, the first one %+v", len(w.matches), w.matches[0])
	}
}

// Each match of the small world with each, held against the packets that meet them.
func TestP192SmallWorld(t *testing.T) {
	w := small()
	for i, m := range w.matches {
		for j, n := range w.matches {
			if got, want := rule.Covers(m, n), w.met[j].within(w.met[i]); got != want {
				t.Fatalf("Covers(%+v, %+v): %v", m, n, got)
			}
			if got, want := rule.Apart(m, n), w.met[j].apart(w.met[i]); got != want {
				t.Fatalf("Apart(%+v, %+v): %v", m, n, got)
			}
		}
	}
}

// spans are numbers from one to another one, of few.
func spans(edges ...int) []api.Span {
	var list []api.Span
	for _, a := range edges {
		for _, b := range edges {
			if a <= b {
				list = append(list, span(a, b))
			}
		}
	}
	return list
}

// spansSay answers of two spans whether all numbers of b are in a, and whether none is in both, number by number.
func spansSay(a, b api.Span) (covers, apart bool) {
	covers, apart = true, true
	for v := int(b.From); v <= int(b.To); v++ {
		if int(a.From) <= v && v <= int(a.To) {
			apart = false
		} else {
			covers = false
		}
	}
	return covers, apart
}

func TestP192In(t *testing.T) {
	list := spans(0, 1, 2, 3, 8, 9, 10, 127, 128, 253, 254, 255)
	for _, a := range list {
		for _, b := range list {
			covers, apart := spansSay(a, b)
			sets(t, api.Match{Asks: 1, In: a}, api.Match{Asks: 1, In: b}, covers, apart)
		}
		all := a == span(0, 255)
		for _, n := range []api.Match{{}, src(read("10.0.0.0/8")), proto(6), dstPort(17, 9, 9)} {
			sets(t, api.Match{Asks: 1, In: a}, n, all, false)
		}
		for _, n := range []api.Match{{}, proto(6)} {
			sets(t, n, api.Match{Asks: 1, In: a}, n.Asks == 0, false)
		}
	}
}

func TestP192Ports(t *testing.T) {
	list := spans(0, 1, 8, 9, 10, 255, 256, 300)
	list = append(list, span(0, 65535), span(0, 65534), span(1, 65535), span(65535, 65535), span(65534, 65535), span(300, 65534))
	for _, a := range list {
		for _, b := range list {
			covers, apart := spansSay(a, b)
			for _, of := range []func(uint8, api.Span) api.Match{srcPortOf, dstPortOf} {
				for _, p := range []uint8{6, 17} {
					sets(t, of(p, a), of(p, b), covers, apart)
					sets(t, of(p, a), of(23-p, b), false, true)
				}
			}
			sets(t, srcPortOf(6, a), dstPortOf(6, b), a == span(0, 65535), false)
			sets(t, both(srcPortOf(6, a), dstPortOf(6, b)), both(srcPortOf(6, b), dstPortOf(6, a)), a == b, apart)
		}
	}
}

func srcPortOf(p uint8, s api.Span) api.Match { return srcPort(p, int(s.From), int(s.To)) }

func dstPortOf(p uint8, s api.Span) api.Match { return dstPort(p, int(s.From), int(s.To)) }

// Ports that are asked and ones that are not, of all protocols.
func TestP192EachProto(t *testing.T) {
	for a := range 256 {
		for b := range 256 {
			sets(t, proto(uint8(a)), proto(uint8(b)), a == b, a != b)
		}
		p := uint8(a)
		sets(t, proto(p), api.Match{}, false, false)
		sets(t, api.Match{}, proto(p), true, false)
		for _, x := range []uint8{6, 17} {
			for _, m := range []api.Match{srcPort(x, 0, 65535), dstPort(x, 0, 65535), both(srcPort(x, 0, 65535), dstPort(x, 0, 65535))} {
				sets(t, m, proto(p), p == x, p != x)
				sets(t, proto(p), m, p == x, p != x)
			}
			for _, m := range []api.Match{srcPort(x, 0, 65534), dstPort(x, 1, 65535), both(srcPort(x, 0, 65535), dstPort(x, 0, 0))} {
				sets(t, m, proto(p), false, p != x)
				sets(t, proto(p), m, p == x, p != x)
			}
		}
	}
}

// Prefixes that part at each place, or do not, of each two numbers of bits; and what they say of the other address.
func TestP192Prefixes(t *testing.T) {
	for _, a := range []api.Addr{four(10, 129, 66, 7), six(0x2001, 7)} {
		b := flip(a, 9)
		all := first(zero(a.V6), 0)
		for i := range wide(a) + 1 {
			p := first(a, i)
			sets(t, src(p), dst(p), i == 0, false)
			sets(t, dst(p), src(p), i == 0, false)
			sets(t, src(p), dst(all), i == 0, false)
			sets(t, src(p), api.Match{}, false, false)
			sets(t, src(p), src(first(zero(!a.V6), 0)), false, true)
			sets(t, src(p), dst(first(zero(!a.V6), 0)), false, true)
			sets(t, dst(first(zero(!a.V6), 7)), src(p), false, true)
			for j := range wide(a) + 1 {
				same, other := first(a, j), first(b, j)
				part := i > 9 && j > 9
				sets(t, src(p), src(same), i <= j, false)
				sets(t, dst(p), dst(same), i <= j, false)
				sets(t, src(p), src(other), i <= j && !part, part)
				sets(t, dst(p), dst(other), i <= j && !part, part)
				sets(t, both(src(p), dst(other)), both(src(same), dst(other)), i <= j, false)
				sets(t, both(src(p), dst(same)), both(src(p), dst(other)), j <= 9, j > 9)
			}
		}
	}
}

// Each field by itself keeps from being covered, and parts.
func TestP192EachField(t *testing.T) {
	most, _ := full()
	others := []api.Match{
		{In: span(10, 11)}, {Src: read("11.0.0.0/8")}, {Dst: read("10.2.0.0/16")}, {Proto: 17}, {SrcPort: span(0, 1023)}, {DstPort: span(81, 90)},
	}
	wider := []api.Match{
		{In: span(3, 10)}, {Src: read("10.0.0.0/7")}, {Dst: read("10.0.0.0/15")}, {Proto: 6}, {SrcPort: span(1023, 65535)}, {DstPort: span(80, 81)},
	}
	sets(t, most, most, true, false)
	for field := range 6 {
		sets(t, most, copied(most, others[field], field), false, true)
		sets(t, most, copied(most, wider[field], field), field == 3, false)
		sets(t, copied(most, wider[field], field), most, true, false)
	}
	for bits := range 64 {
		m := without(most, uint8(bits))
		if mayBe(m) {
			sets(t, m, most, true, false)
			sets(t, most, m, m == most, false)
		}
	}
}

// The other address's kind follows from one address.
func TestP192Kinds(t *testing.T) {
	four, six := read("0.0.0.0/0"), read("::/0")
	for _, p := range []api.Prefix{read("0.0.0.0/0"), read("10.0.0.0/8"), read("1.2.3.4/32")} {
		for _, m := range []api.Match{src(p), dst(p), both(src(p), dst(p))} {
			for _, n := range []api.Match{src(four), dst(four), both(src(four), dst(four))} {
				sets(t, n, m, true, false)
			}
			for _, n := range []api.Match{src(six), dst(six), both(src(six), dst(six)), both(dst(six), proto(6))} {
				sets(t, n, m, false, true)
				sets(t, m, n, false, true)
			}
			sets(t, m, in(3, 9), false, false)
			sets(t, api.Match{}, m, true, false)
		}
	}
}

// Both are false, if one of the two may not be, whichever, or both.
func TestP192NotMatches(t *testing.T) {
	most, _ := full()
	good := []api.Match{{}, most, in(0, 255), proto(6), proto(17), src(read("10.0.0.0/8")), dst(read("::/0"))}
	for _, m := range notMatches() {
		for _, n := range good {
			sets(t, m, n, false, false)
			sets(t, n, m, false, false)
		}
		sets(t, m, m, false, false)
	}
	list := notMatches()[:60]
	for _, m := range list {
		for _, n := range list {
			sets(t, m, n, false, false)
		}
	}
}

// Drawn pairs: where there is a usual packet that tells, and where there is none.
func TestP192Drawn(t *testing.T) {
	r := rand.New(rand.NewSource(1921))
	covered, parted := 0, 0
	for range 10000 {
		m := drawnMatch(r)
		n := drawnNear(r, m)
		if r.Intn(4) == 0 {
			n = drawnMatch(r)
		}
		if r.Intn(2) == 0 {
			m, n = n, m
		}
		_, less := found(m, n, false)
		_, shared := found(m, n, true)
		sets(t, m, n, !less, !shared)
		if !less {
			covered++
		}
		if !shared {
			parted++
		}
	}
	if covered < 1000 || parted < 1000 {
		t.Errorf("of 10000 pairs %d are covered, %d apart", covered, parted)
	}
}
