package rule_test

import (
	"math"
	"math/rand"
	"testing"

	"patchbay/api"
	"patchbay/rule"
)

// checks tells of a Check that does not answer what the chapter says.
func checks(t *testing.T, m api.Match) {
	t.Helper()
	want := api.OK
	if !mayBe(m) {
		want = api.ErrMatch
	}
	if e := rule.Check(m); e != want {
		t.Fatalf("Check(%+v): %v, not %v", m, e, want)
	}
}

// asked tells of a Meets of a match that may be, or of one that may not, that does not answer what the chapter says.
func asked(t *testing.T, m api.Match, x pack) {
	t.Helper()
	want := mayBe(m) && meets(m, x)
	if got := rule.Meets(m, x.in, x.h); got != want {
		t.Fatalf("Meets(%+v, %d, %+v): %v, not %v", m, x.in, x.h, got, want)
	}
}

func TestP191Examples(t *testing.T) {
	for i, x := range []struct {
		m    api.Match
		want api.Errno
	}{
		{api.Match{Asks: 64}, api.ErrMatch},
		{api.Match{Proto: 6}, api.ErrMatch},
		{api.Match{Asks: api.AskProto, Proto: 6}, api.OK},
		{api.Match{Asks: api.AskDstPort, DstPort: api.Span{From: 80, To: 80}}, api.ErrMatch},
		{api.Match{Asks: api.AskProto | api.AskDstPort, Proto: 17, DstPort: api.Span{From: 80, To: 80}}, api.OK},
		{api.Match{Asks: api.AskIn, In: api.Span{To: 256}}, api.ErrMatch},
		{api.Match{Asks: api.AskSrc | api.AskDst, Src: read("10.0.0.0/8"), Dst: read("::/0")}, api.ErrMatch},
	} {
		if e := rule.Check(x.m); e != x.want {
			t.Errorf("Check %d: %v", i, e)
		}
	}
	if !rule.Meets(src(read("10.0.0.0/8")), 3, api.Header{Src: four(10, 1, 2, 3)}) {
		t.Errorf("a packet from 10.1.2.3 does not meet AskSrc 10.0.0.0/8")
	}
	if rule.Meets(in(4, 9), 3, api.Header{}) {
		t.Errorf("a packet that comes in at 3 meets AskIn 4 to 9")
	}
}

// Whatever is asked, and whatever is filled: each of the 256 Asks with each choice of fields that are not zero.
func TestP191CheckOfEachAsks(t *testing.T) {
	most, _ := full()
	ok := 0
	for asks := range 256 {
		for fields := range 64 {
			m := without(most, uint8(63&^fields))
			m.Asks = uint8(asks)
			checks(t, m)
			if rule.Check(m) == api.OK {
				ok++
			}
		}
	}
	// Each field is asked and filled, or neither; or, but the protocol where ports are asked, asked and zero: 3^3 without protocol and ports, with a protocol that is zero, and, with one that has ports, 3^2 times as many.
	if want := 27 + 27 + 27*9; ok != want {
		t.Errorf("%d may be, not %d", ok, want)
	}
}

// One thing that is not zero in a field that is not asked.
func TestP191CheckOfWhatIsNotAsked(t *testing.T) {
	most, _ := full()
	for field, list := range [][]api.Match{
		{{In: span(0, 1)}, {In: span(1, 0)}, {In: span(1, 1)}, {In: span(0, 256)}, {In: span(256, 0)}, {In: span(65535, 65535)}},
		strangePrefixes(func(p api.Prefix) api.Match { return api.Match{Src: p} }),
		strangePrefixes(func(p api.Prefix) api.Match { return api.Match{Dst: p} }),
		{{Proto: 1}, {Proto: 6}, {Proto: 17}, {Proto: 128}, {Proto: 255}},
		{{SrcPort: span(0, 1)}, {SrcPort: span(1, 0)}, {SrcPort: span(0, 256)}, {SrcPort: span(256, 256)}, {SrcPort: span(65535, 65535)}},
		{{DstPort: span(0, 1)}, {DstPort: span(1, 0)}, {DstPort: span(0, 256)}, {DstPort: span(256, 256)}, {DstPort: span(65535, 65535)}},
	} {
		for _, x := range list {
			for _, m := range []api.Match{{}, without(most, 1<<field), without(most, 48|1<<field), without(most, 6|1<<field)} {
				if field == 3 {
					m = without(m, 48)
				}
				if e := rule.Check(m); e != api.OK {
					t.Fatalf("Check(%+v): %v", m, e)
				}
				m = copied(m, x, field)
				if e := rule.Check(m); e != api.ErrMatch {
					t.Fatalf("Check(%+v): %v", m, e)
				}
				checks(t, m)
				asked(t, m, pack{})
			}
		}
	}
}

// strangePrefixes answers matches of prefixes that have one thing alone that is not zero.
func strangePrefixes(of func(p api.Prefix) api.Match) []api.Match {
	list := []api.Match{of(api.Prefix{Addr: zero(true)}), of(api.Prefix{Bits: 1}), of(api.Prefix{Bits: -1}), of(api.Prefix{Bits: math.MinInt}), of(api.Prefix{Bits: 1 << 32})}
	for place := range 128 {
		list = append(list, of(api.Prefix{Addr: flip(zero(false), place)}))
	}
	return list
}

func TestP191CheckOfSpans(t *testing.T) {
	edges := []int{0, 1, 2, 79, 80, 81, 254, 255, 256, 257, 511, 512, 32767, 32768, 65279, 65280, 65534, 65535}
	for _, a := range edges {
		for _, b := range edges {
			for _, m := range []api.Match{in(a, b), srcPort(6, a, b), dstPort(6, a, b), srcPort(17, a, b), dstPort(17, a, b), both(srcPort(6, a, b), dstPort(6, b, a)), both(in(a, b), srcPort(17, 0, a))} {
				checks(t, m)
				asked(t, m, pack{a, api.Header{Proto: m.Proto, SrcPort: uint16(a), DstPort: uint16(a)}})
			}
		}
	}
	for from := range 258 {
		for to := range 258 {
			checks(t, in(from, to))
		}
	}
}

func TestP191CheckOfEachProto(t *testing.T) {
	for x := range 256 {
		p := uint8(x)
		for _, m := range []api.Match{proto(p), srcPort(p, 0, 0), srcPort(p, 1, 65535), dstPort(p, 0, 0), dstPort(p, 80, 80), both(srcPort(p, 0, 65535), dstPort(p, 1, 2)), both(proto(p), in(3, 9))} {
			checks(t, m)
			m.Asks &^= 8
			checks(t, m)
		}
	}
}

func TestP191CheckOfPrefixes(t *testing.T) {
	for _, p := range notPrefixes() {
		for _, m := range []api.Match{src(p), dst(p), both(src(p), dst(p)), both(src(p), dst(first(zero(p.Addr.V6), 0))), both(dst(p), src(first(zero(p.Addr.V6), 0)))} {
			if e := rule.Check(m); e != api.ErrMatch {
				t.Fatalf("Check(%+v): %v", m, e)
			}
			asked(t, m, pack{0, api.Header{Src: p.Addr, Dst: p.Addr}})
		}
	}
	for _, a := range []api.Addr{four(10, 129, 66, 7), last(read("0.0.0.0/0")), zero(false), six(0x2001, 7), last(read("::/0")), zero(true)} {
		for bits := range wide(a) + 1 {
			p := first(a, bits)
			for _, q := range []api.Prefix{read("0.0.0.0/0"), read("255.255.255.255/32"), read("::/0"), read("::1/128")} {
				for _, m := range []api.Match{src(p), dst(p), both(src(p), dst(q)), both(dst(p), src(q))} {
					checks(t, m)
				}
			}
		}
	}
}

func TestP191CheckOfNotMatches(t *testing.T) {
	_, x := full()
	for _, m := range notMatches() {
		if e := rule.Check(m); e != api.ErrMatch || mayBe(m) {
			t.Fatalf("Check(%+v): %v", m, e)
		}
		for _, y := range []pack{x, {}, {in: 255}, {in: 256}, {h: api.Header{Src: m.Src.Addr, Dst: m.Dst.Addr, Proto: m.Proto, SrcPort: m.SrcPort.From, DstPort: m.DstPort.From}}, {h: api.Header{Src: zero(true), Dst: zero(true)}}} {
			if rule.Meets(m, y.in, y.h) {
				t.Fatalf("%+v meets %+v, which may not be", y, m)
			}
		}
	}
}

// A match that asks nothing is met by all, whatever they are.
func TestP191MeetsNothingAsked(t *testing.T) {
	r := rand.New(rand.NewSource(1911))
	for _, in := range anyPorts() {
		for range 20 {
			x := drawnPack(r, drawnMatch(r), false)
			if !rule.Meets(api.Match{}, in, x.h) {
				t.Fatalf("%d, %+v does not meet what asks nothing", in, x.h)
			}
		}
	}
}

func TestP191MeetsIn(t *testing.T) {
	for _, from := range usualPorts() {
		for _, to := range usualPorts() {
			for _, x := range anyPorts() {
				asked(t, in(from, to), pack{x, api.Header{}})
			}
		}
	}
}

// Each number of bits of a prefix, against addresses that part from its own at each place.
func TestP191MeetsAddrs(t *testing.T) {
	for _, a := range []api.Addr{four(10, 129, 66, 7), zero(false), last(read("0.0.0.0/0")), six(0x2001, 7), zero(true), last(read("::/0"))} {
		for bits := range wide(a) + 1 {
			p := first(a, bits)
			for place := range wide(a) {
				b := flip(a, place)
				for _, h := range []api.Header{{Src: b, Dst: b}, {Src: a, Dst: b}, {Src: b, Dst: a}} {
					asked(t, src(p), pack{0, h})
					asked(t, dst(p), pack{0, h})
					asked(t, both(src(p), dst(p)), pack{0, h})
				}
			}
		}
	}
}

// Addresses of the other kind, of two kinds, and ones that may not be.
func TestP191MeetsAnyAddrs(t *testing.T) {
	addrs := append(notAddrs(), zero(false), four(10, 0, 0, 0), zero(true), api.Addr{V6: true, B: four(10, 0, 0, 0).B}, api.Addr{B: six(0x0a00, 1).B})
	for _, p := range []api.Prefix{read("0.0.0.0/0"), read("10.0.0.0/8"), read("10.0.0.0/32"), read("::/0"), read("a00::/8"), read("a00::/128")} {
		for _, a := range addrs {
			for _, b := range addrs {
				x := pack{0, api.Header{Src: a, Dst: b}}
				asked(t, src(p), x)
				asked(t, dst(p), x)
				asked(t, both(src(p), dst(p)), x)
			}
		}
	}
}

func TestP191MeetsEachProto(t *testing.T) {
	for a := range 256 {
		for b := range 256 {
			asked(t, proto(uint8(a)), pack{0, api.Header{Proto: uint8(b), SrcPort: 5, DstPort: 9}})
		}
	}
}

// Ports at the ends of what is asked and beside them, of headers with and without ports.
func TestP191MeetsPorts(t *testing.T) {
	edges := []int{0, 1, 5, 9, 79, 80, 255, 256, 65534, 65535}
	for _, from := range edges {
		for _, to := range edges {
			for _, at := range append(aboutSpan(span(from, to), 65535), edges...) {
				for _, h := range []api.Header{{Proto: 6, SrcPort: uint16(at)}, {Proto: 6, DstPort: uint16(at)}, {Proto: 17, SrcPort: uint16(at), DstPort: 80}, {Proto: 17, SrcPort: 80, DstPort: uint16(at)}, {Proto: 1, SrcPort: uint16(at), DstPort: uint16(at)}} {
					for _, p := range []uint8{6, 17} {
						asked(t, srcPort(p, from, to), pack{0, h})
						asked(t, dstPort(p, from, to), pack{0, h})
						asked(t, both(srcPort(p, from, to), dstPort(p, 80, 80)), pack{0, h})
					}
				}
			}
		}
	}
}

// Each choice of what is asked, of packets each choice of whose fields is other than what is asked: all that is asked counts, and nothing else.
func TestP191MeetsAllThatIsAsked(t *testing.T) {
	most, x := full()
	others := []func(y *pack){
		func(y *pack) { y.in = 10 }, func(y *pack) { y.h.Src = four(11, 0, 0, 1) }, func(y *pack) { y.h.Dst = four(10, 2, 2, 3) },
		func(y *pack) { y.h.Proto = 17 }, func(y *pack) { y.h.SrcPort = 1023 }, func(y *pack) { y.h.DstPort = 81 },
	}
	for bits := range 64 {
		m := without(most, uint8(63&^bits))
		for other := range 64 {
			y := x
			for field, change := range others {
				if other>>field&1 == 1 {
					change(&y)
				}
			}
			asked(t, m, y)
			if may := bits&48 == 0 || bits&8 == 8; rule.Meets(m, y.in, y.h) != (may && bits&other == 0) {
				t.Fatalf("of %06b asked, %06b other: %v", bits, other, !may || bits&other != 0)
			}
		}
	}
}

// What else a header has counts for nothing, and nothing is changed.
func TestP191MeetsWhateverElse(t *testing.T) {
	r := rand.New(rand.NewSource(1912))
	m, x := full()
	for range 300 {
		h := x.h
		h.TTL, h.Class, h.Id, h.Flags, h.Seq = uint8(r.Uint32()), uint8(r.Uint32()), r.Uint32(), uint8(r.Uint32()), r.Uint32()
		data := make([]byte, r.Intn(3000))
		r.Read(data)
		h.Data = append([]byte(nil), data...)
		if !rule.Meets(m, x.in, h) || rule.Meets(m, 10, h) || string(h.Data) != string(data) {
			t.Fatalf("a header with other things beside: %+v", h)
		}
	}
}

func TestP191Drawn(t *testing.T) {
	r := rand.New(rand.NewSource(1913))
	met := 0
	for range 4000 {
		m := drawnMatch(r)
		checks(t, m)
		for range 25 {
			n, x := m, drawnPack(r, m, r.Intn(2) == 0)
			if r.Intn(2) == 0 {
				n = narrower(r, drawnNear(r, m))
			}
			checks(t, n)
			asked(t, n, x)
			if rule.Meets(n, x.in, x.h) {
				met++
			}
		}
	}
	if met < 5000 || met > 95000 {
		t.Errorf("%d of 100000 were met", met)
	}
}
