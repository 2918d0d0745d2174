package cell

import (
	"math/big"
	"testing"

	"patchbay/api"
	"patchbay/plays"
)

// number answers a number of 64 bits as one of arithmetic, which does not go round.
func number(v uint64) *big.Int {
	return new(big.Int).SetUint64(v)
}

func TestP31CounterExamples(t *testing.T) {
	c := NewCounter(5)
	for i, x := range []struct {
		call func() (uint64, bool, api.Errno)
		v    uint64
		ok   bool
	}{
		{func() (uint64, bool, api.Errno) { return c.Up(nil, 3, 8) }, 8, true},
		{func() (uint64, bool, api.Errno) { return c.Up(nil, 1, 8) }, 8, false},
		{func() (uint64, bool, api.Errno) { return c.Down(nil, 9) }, 8, false},
		{func() (uint64, bool, api.Errno) { return c.Down(nil, 8) }, 0, true},
		{func() (uint64, bool, api.Errno) { v, e := c.Add(nil, top); return v, true, e }, top, true},
		{func() (uint64, bool, api.Errno) { v, e := c.Get(nil); return v, true, e }, top, true},
		{func() (uint64, bool, api.Errno) { return c.Up(nil, 1, top) }, top, false},
		{func() (uint64, bool, api.Errno) { return c.Up(nil, 2, 0) }, top, false},
		{func() (uint64, bool, api.Errno) { ok, e := c.Max(nil, 9); return 0, ok, e }, 0, false},
		{func() (uint64, bool, api.Errno) { ok, e := c.Max(nil, top); return 0, ok, e }, 0, false},
	} {
		if v, ok, e := x.call(); v != x.v || ok != x.ok || e != api.OK {
			t.Errorf("call %d: %d, %v, %v, not %d, %v", i, v, ok, e, x.v, x.ok)
		}
	}
	counterIs(t, c, top)
}

func TestP31NewCounterHasItsNumber(t *testing.T) {
	for _, v := range edges() {
		c, other := NewCounter(v), NewCounter(v)
		counterIs(t, c, v)
		other.Add(nil, 1)
		counterIs(t, c, v)
		counterIs(t, c, v)
	}
}

func TestP31AddGoesRound(t *testing.T) {
	for _, v := range edges() {
		for _, n := range edges() {
			sum := number(v)
			sum.Add(sum, number(n)).And(sum, number(top))
			c := NewCounter(v)
			if got, e := c.Add(nil, n); got != sum.Uint64() || e != api.OK {
				t.Errorf("%d: Add(%d): %d, %v, not %d", v, n, got, e, sum)
			}
			counterIs(t, c, sum.Uint64())
		}
	}
}

func TestP31UpNeverGoesRound(t *testing.T) {
	for _, v := range edges() {
		for _, n := range edges() {
			for _, most := range edges() {
				sum := number(v)
				sum.Add(sum, number(n))
				want, fits := v, sum.Cmp(number(most)) <= 0
				if fits {
					want = sum.Uint64()
				}
				c := NewCounter(v)
				if got, ok, e := c.Up(nil, n, most); got != want || ok != fits || e != api.OK {
					t.Errorf("%d: Up(%d, %d): %d, %v, %v, not %d, %v", v, n, most, got, ok, e, want, fits)
				}
				counterIs(t, c, want)
			}
		}
	}
}

func TestP31DownNeverGoesRound(t *testing.T) {
	for _, v := range edges() {
		for _, n := range edges() {
			want, fits := v, number(v).Cmp(number(n)) >= 0
			if fits {
				rest := number(v)
				want = rest.Sub(rest, number(n)).Uint64()
			}
			c := NewCounter(v)
			if got, ok, e := c.Down(nil, n); got != want || ok != fits || e != api.OK {
				t.Errorf("%d: Down(%d): %d, %v, %v, not %d, %v", v, n, got, ok, e, want, fits)
			}
			counterIs(t, c, want)
		}
	}
}

func TestP31MaxPutsWhatIsAboveAlone(t *testing.T) {
	for _, x := range edges() {
		for _, v := range edges() {
			want, above := x, number(v).Cmp(number(x)) > 0
			if above {
				want = v
			}
			c := NewCounter(x)
			if ok, e := c.Max(nil, v); ok != above || e != api.OK {
				t.Errorf("%d: Max(%d): %v, %v, not %v", x, v, ok, e, above)
			}
			counterIs(t, c, want)
		}
	}
}

func TestP31OperationsOfACounter(t *testing.T) {
	for _, x := range []struct {
		name string
		v    uint64
		call func(c *Counter, g api.Gate)
		want []api.OpKind
	}{
		{"Get", 5, func(c *Counter, g api.Gate) { c.Get(g) }, []api.OpKind{api.OpLoad}},
		{"Add", 5, func(c *Counter, g api.Gate) { c.Add(g, 3) }, []api.OpKind{api.OpAdd}},
		{"Add of nothing", 5, func(c *Counter, g api.Gate) { c.Add(g, 0) }, []api.OpKind{api.OpAdd}},
		{"Up", 5, func(c *Counter, g api.Gate) { c.Up(g, 3, 8) }, []api.OpKind{api.OpLoad, api.OpCAS}},
		{"Up of nothing", 8, func(c *Counter, g api.Gate) { c.Up(g, 0, 8) }, []api.OpKind{api.OpLoad, api.OpCAS}},
		{"Up of nothing, of 0", 0, func(c *Counter, g api.Gate) { c.Up(g, 0, 0) }, []api.OpKind{api.OpLoad, api.OpCAS}},
		{"Up that is too much", 8, func(c *Counter, g api.Gate) { c.Up(g, 1, 8) }, []api.OpKind{api.OpLoad}},
		{"Up that is too much whatever there is", 0, func(c *Counter, g api.Gate) { c.Up(g, 9, 8) }, []api.OpKind{api.OpLoad}},
		{"Up that would go round", top, func(c *Counter, g api.Gate) { c.Up(g, 1, top) }, []api.OpKind{api.OpLoad}},
		{"Up of nothing, above most", 9, func(c *Counter, g api.Gate) { c.Up(g, 0, 8) }, []api.OpKind{api.OpLoad}},
		{"Down", 5, func(c *Counter, g api.Gate) { c.Down(g, 5) }, []api.OpKind{api.OpLoad, api.OpCAS}},
		{"Down of nothing", 0, func(c *Counter, g api.Gate) { c.Down(g, 0) }, []api.OpKind{api.OpLoad, api.OpCAS}},
		{"Down that is too much", 5, func(c *Counter, g api.Gate) { c.Down(g, 6) }, []api.OpKind{api.OpLoad}},
		{"Max", 5, func(c *Counter, g api.Gate) { c.Max(g, 6) }, []api.OpKind{api.OpLoad, api.OpCAS}},
		{"Max of the same", 5, func(c *Counter, g api.Gate) { c.Max(g, 5) }, []api.OpKind{api.OpLoad}},
		{"Max of less", 5, func(c *Counter, g api.Gate) { c.Max(g, 0) }, []api.OpKind{api.OpLoad}},
	} {
		tells(t, x.name, func(g api.Gate) { x.call(NewCounter(x.v), g) }, x.want...)
	}
	tells(t, "NewCounter", func(api.Gate) { NewCounter(5) })
}

func TestP31CountersThatAreNone(t *testing.T) {
	whole := NewCounter(7)
	for name, c := range map[string]*Counter{"nil": nil, "a zero value": {}, "new": new(Counter), "a copy": plays.Copied(whole)} {
		tells(t, name, func(g api.Gate) {
			if v, e := c.Get(g); v != 0 || e != api.ErrNil {
				t.Errorf("%s: Get: %d, %v", name, v, e)
			}
			if v, e := c.Add(g, 3); v != 0 || e != api.ErrNil {
				t.Errorf("%s: Add: %d, %v", name, v, e)
			}
			for _, most := range []uint64{0, 9, top} {
				if v, ok, e := c.Up(g, 1, most); v != 0 || ok || e != api.ErrNil {
					t.Errorf("%s: Up: %d, %v, %v", name, v, ok, e)
				}
			}
			for _, n := range []uint64{0, 1, top} {
				if v, ok, e := c.Down(g, n); v != 0 || ok || e != api.ErrNil {
					t.Errorf("%s: Down: %d, %v, %v", name, v, ok, e)
				}
				if ok, e := c.Max(g, n); ok || e != api.ErrNil {
					t.Errorf("%s: Max: %v, %v", name, ok, e)
				}
			}
		})
	}
	counterIs(t, whole, 7)
}
