package prefix_test

import (
	"math"
	"math/rand"
	"slices"
	"testing"

	"patchbay/api"
	"patchbay/prefix"
)

func TestP151CheckAddr(t *testing.T) {
	for _, a := range addrs() {
		if e := prefix.CheckAddr(a); e != api.OK {
			t.Errorf("CheckAddr(%v): %v", a, e)
		}
	}
	for _, a := range notAddrs() {
		if e := prefix.CheckAddr(a); e != api.ErrAddr {
			t.Errorf("CheckAddr(%v): %v", a, e)
		}
		a.V6 = true
		if e := prefix.CheckAddr(a); e != api.OK {
			t.Errorf("CheckAddr(%v): %v", a, e)
		}
	}
}

func TestP151Check(t *testing.T) {
	for _, p := range prefixes() {
		if e := prefix.Check(p); e != api.OK {
			t.Errorf("Check(%v): %v", p, e)
		}
	}
	for _, p := range notPrefixes() {
		if e := prefix.Check(p); e != api.ErrPrefix {
			t.Errorf("Check(%v): %v", p, e)
		}
	}
}

func TestP151CheckLooksAtEachBit(t *testing.T) {
	for _, a := range []api.Addr{four(0, 0, 0, 0), six()} {
		for place := range wide(a) {
			for bits := range wide(a) + 1 {
				want := api.OK
				if place >= bits {
					want = api.ErrPrefix
				}
				if e := prefix.Check(of(flip(a, place), bits)); e != want {
					t.Fatalf("the bit %d, of %d bits: %v, not %v", place, bits, e, want)
				}
			}
		}
	}
}

func TestP151Of(t *testing.T) {
	for _, a := range addrs() {
		for bits := range wide(a) + 1 {
			if p, e := prefix.Of(a, bits); p != fromRow(a.V6, row(a)[:bits]) || e != api.OK {
				t.Errorf("Of(%v, %d): %v, %v", a, bits, p, e)
			}
		}
		for _, bits := range notBits(wide(a)) {
			if p, e := prefix.Of(a, bits); p != (api.Prefix{}) || e != api.ErrPrefix {
				t.Errorf("Of(%v, %d): %v, %v", a, bits, p, e)
			}
		}
	}
	// The address is named first.
	for _, a := range notAddrs() {
		for _, bits := range append(notBits(32), 0, 8, 32, 128) {
			if p, e := prefix.Of(a, bits); p != (api.Prefix{}) || e != api.ErrAddr {
				t.Errorf("Of(%v, %d): %v, %v", a, bits, p, e)
			}
		}
	}
}

func TestP152Has(t *testing.T) {
	for _, p := range prefixes() {
		for _, a := range addrs() {
			if got, want := prefix.Has(p, a), hasSays(p, a); got != want {
				t.Errorf("Has(%v, %v): %v", p, a, got)
			}
		}
		for place := range wide(p.Addr) {
			if got, want := prefix.Has(p, flip(p.Addr, place)), place >= p.Bits; got != want {
				t.Errorf("Has(%v, its own with another bit %d): %v", p, place, got)
			}
		}
	}
}

func TestP152HasOfWhatMayNotBe(t *testing.T) {
	for _, p := range notPrefixes() {
		for _, a := range append(addrs(), p.Addr) {
			if prefix.Has(p, a) {
				t.Errorf("Has(%v, %v)", p, a)
			}
		}
	}
	for _, a := range notAddrs() {
		for _, p := range []api.Prefix{of(four(0, 0, 0, 0), 0), of(four(10, 0, 0, 0), 8), of(four(10, 0, 0, 0), 32), of(six(), 0)} {
			if prefix.Has(p, a) {
				t.Errorf("Has(%v, %v)", p, a)
			}
		}
	}
}

func TestP152Covers(t *testing.T) {
	list := some()
	for _, p := range list {
		for _, q := range list {
			if got := prefix.Covers(p, q); got != coversSays(p, q) {
				t.Errorf("Covers(%v, %v): %v", p, q, got)
			}
		}
	}
}

func TestP152CoversOfWhatMayNotBe(t *testing.T) {
	for _, p := range notPrefixes() {
		for _, q := range append(some(), p) {
			if prefix.Covers(p, q) || prefix.Covers(q, p) {
				t.Errorf("Covers of %v and %v", p, q)
			}
		}
	}
}

// mixed answers prefixes that may be, and others.
func mixed() []api.Prefix {
	list := append(some(), notPrefixes()...)
	for i := range 16 {
		for _, x := range []byte{1, 127, 128, 255} {
			a := four(0, 0, 0, 0)
			a.B[i] = x
			list = append(list, of(a, 7), of(api.Addr{V6: true, B: a.B}, 7))
		}
	}
	return list
}

func TestP152Compare(t *testing.T) {
	list := mixed()
	for _, p := range list {
		for _, q := range list {
			if got, want := prefix.Compare(p, q), compareSays(p, q); got != want {
				t.Fatalf("Compare(%v, %v): %d, not %d", p, q, got, want)
			}
		}
	}
	if prefix.Compare(of(six(), math.MinInt), of(six(), math.MaxInt)) != -1 || prefix.Compare(of(six(), math.MaxInt), of(six(), math.MinInt)) != 1 {
		t.Error("Bits far from one another")
	}
}

func TestP152CompareIsAnOrder(t *testing.T) {
	want := mustRead(t, "0.0.0.0/0 0.0.0.0/1 0.0.0.0/32 0.0.0.1/32 0.1.0.0/16 10.0.0.0/8 10.0.0.0/9 10.9.0.0/16 128.0.0.0/1 255.0.0.0/8 ::/0 ::/128 ::1/128 a::/16 a::/17 8000::/1")
	r := rand.New(rand.NewSource(152))
	for range 20 {
		got := slices.Clone(want)
		r.Shuffle(len(got), func(i, j int) { got[i], got[j] = got[j], got[i] })
		slices.SortFunc(got, prefix.Compare)
		if !slices.Equal(got, want) {
			t.Fatalf("the order: %v", got)
		}
	}
}

func TestP154Halves(t *testing.T) {
	for _, p := range prefixes() {
		a, b, e := prefix.Halves(p)
		if p.Bits == wide(p.Addr) {
			if a != (api.Prefix{}) || b != (api.Prefix{}) || e != api.ErrRange {
				t.Errorf("Halves(%v): %v, %v, %v", p, a, b, e)
			}
			continue
		}
		if a != fromRow(p.Addr.V6, head(p)+"0") || b != fromRow(p.Addr.V6, head(p)+"1") || e != api.OK {
			t.Errorf("Halves(%v): %v, %v, %v", p, a, b, e)
		}
	}
	// What may not be is named first, be there bits to spare or none.
	for _, p := range append(notPrefixes(), of(flip(four(0, 0, 0, 0), 40), 32)) {
		if a, b, e := prefix.Halves(p); a != (api.Prefix{}) || b != (api.Prefix{}) || e != api.ErrPrefix {
			t.Errorf("Halves(%v): %v, %v, %v", p, a, b, e)
		}
	}
}

func TestP151ToP154Examples(t *testing.T) {
	list := mustRead(t, "0.0.0.0/0 10.0.0.0/8 10.9.0.0/16 10.0.0.0/9 10.128.0.0/9 1.2.3.4/32")
	if p, e := prefix.Of(four(10, 1, 2, 3), 9); p != list[3] || e != api.OK {
		t.Errorf("Of 9 bits: %v, %v", p, e)
	}
	if p, e := prefix.Of(four(10, 1, 2, 3), 33); p != (api.Prefix{}) || e != api.ErrPrefix {
		t.Errorf("Of 33 bits: %v, %v", p, e)
	}
	if prefix.Has(list[0], six()) || !prefix.Covers(list[1], list[2]) || prefix.Covers(list[2], list[1]) {
		t.Error("Has, Covers")
	}
	if a, b, e := prefix.Halves(list[1]); a != list[3] || b != list[4] || e != api.OK {
		t.Errorf("Halves: %v, %v, %v", a, b, e)
	}
	if _, _, e := prefix.Halves(list[5]); e != api.ErrRange {
		t.Errorf("Halves of one address: %v", e)
	}
}
