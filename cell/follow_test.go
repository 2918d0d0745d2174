package cell

import (
	"slices"
	"strings"
	"testing"

	"patchbay/api"
	"patchbay/plays"
	"patchbay/turn"
)

func TestP33NeverAboveMost(t *testing.T) {
	type ask struct {
		up bool
		n  uint64
	}
	for _, x := range []struct {
		start, most uint64
		threads     [][]ask
	}{
		{0, 1, [][]ask{{{true, 1}}, {{true, 1}}, {{true, 1}}}},
		{2, 3, [][]ask{{{true, 2}, {false, 1}}, {{true, 1}, {false, 2}}}},
		{0, 0, [][]ask{{{true, 1}, {true, 0}}, {{false, 1}, {false, 0}}}},
		{3, 3, [][]ask{{{false, 2}}, {{true, 2}}, {{true, 1}}}},
		{top - 1, top, [][]ask{{{true, 1}, {true, 2}}, {{true, top}, {false, top}}}},
		{1, top, [][]ask{{{true, top}, {false, 2}}, {{false, 1}, {true, top}}}},
	} {
		var c *Counter
		var in uint64 // what it began with, and all Ups, less all Downs, that said true
		everyPlay(t, func() []func(g api.Gate) {
			c, in = NewCounter(x.start), x.start
			var threads []func(g api.Gate)
			for _, asks := range x.threads {
				threads = append(threads, func(g api.Gate) {
					for _, a := range asks {
						if a.up {
							if _, ok, _ := c.Up(g, a.n, x.most); ok {
								in += a.n
							}
						} else if _, ok, _ := c.Down(g, a.n); ok {
							in -= a.n
						}
					}
				})
			}
			return plays.Watched(func() {
				if v, _ := c.Get(nil); v > x.most {
					t.Errorf("from %d: %d, above %d", x.start, v, x.most)
				}
			}, threads...)
		}, func(p api.Played) { counterIs(t, c, in) })
	}
}

func TestP34OneSetAloneSaysTrue(t *testing.T) {
	var f *Flag
	first := 0
	everyPlay(t, func() []func(g api.Gate) {
		f, first = NewFlag(), 0
		return slices.Repeat([]func(g api.Gate){func(g api.Gate) {
			for range 2 {
				if ok, _ := f.Set(g); ok {
					first++
				}
			}
		}}, 3)
	}, func(p api.Played) {
		if set, _ := f.Get(nil); first != 1 || !set {
			t.Errorf("by %v: %d Sets said true, it is set: %v", plays.Order(p.Trace), first, set)
		}
	})
}

func TestP34SetsAndClearsComeInTurns(t *testing.T) {
	var f *Flag
	said := ""
	everyPlay(t, func() []func(g api.Gate) {
		f, said = NewFlag(), ""
		set := func(g api.Gate) {
			if ok, _ := f.Set(g); ok {
				said += "S"
			}
		}
		clear := func(g api.Gate) {
			if ok, _ := f.Clear(g); ok {
				said += "C"
			}
		}
		return []func(g api.Gate){
			func(g api.Gate) { set(g); clear(g); set(g) },
			func(g api.Gate) { set(g); set(g) },
			func(g api.Gate) { clear(g); clear(g) },
		}
	}, func(p api.Played) {
		if !strings.HasPrefix("SCSCSCSC", said) {
			t.Errorf("by %v: %s", plays.Order(p.Trace), said)
		}
		if set, _ := f.Get(nil); set != (len(said)%2 == 1) {
			t.Errorf("by %v: %s, and it is set: %v", plays.Order(p.Trace), said, set)
		}
	})
}

func TestP34AMaxThatSaysTrueIsAboveAll(t *testing.T) {
	for _, x := range []struct {
		start   uint64
		threads [][]uint64
	}{
		{3, [][]uint64{{5, 4}, {7, 9}}},
		{0, [][]uint64{{1}, {2}, {3}}},
		{8, [][]uint64{{9}, {9}, {8}}},
		{0, [][]uint64{{0, top}, {top, top - 1}}},
	} {
		var c *Counter
		var rose, had []uint64
		everyPlay(t, func() []func(g api.Gate) {
			c, rose, had = NewCounter(x.start), nil, nil
			var threads []func(g api.Gate)
			for _, list := range x.threads {
				threads = append(threads, func(g api.Gate) {
					for _, v := range list {
						if ok, _ := c.Max(g, v); ok {
							rose = append(rose, v)
						}
					}
				})
			}
			return plays.Watched(func() {
				v, _ := c.Get(nil)
				had = append(had, v)
			}, threads...)
		}, func(p api.Played) {
			counterIs(t, c, slices.Max(append(slices.Concat(x.threads...), x.start)))
			// What it had, each number once, is what it began with and what the true ones put: each above all ahead of it.
			if want := append([]uint64{x.start}, rose...); !slices.Equal(slices.Compact(had), want) || !slices.IsSorted(want) || len(slices.Compact(slices.Clone(want))) != len(want) {
				t.Errorf("by %v: it had %v, true said %v", plays.Order(p.Trace), had, rose)
			}
		})
	}
}

// pair is a value that is whole if both of its halves are the same.
type pair struct{ a, b int }

func TestP35EachPutHasANumberOfItsOwn(t *testing.T) {
	var b *Box[pair]
	var put map[uint64]pair
	var numbers []uint64
	everyPlay(t, func() []func(g api.Gate) {
		b, put, numbers = NewBox(pair{9, 9}), map[uint64]pair{0: {9, 9}}, nil
		var threads []func(g api.Gate)
		for k := range 2 {
			threads = append(threads, func(g api.Gate) {
				for i := range 2 {
					v := pair{10*k + i, 10*k + i}
					n, _ := b.Put(g, v)
					if _, ok := put[n]; ok {
						t.Errorf("two values have the number %d", n)
					}
					put[n] = v
				}
			})
		}
		reader := func(g api.Gate) {
			if v, n, e := b.Get(g); v != put[n] || e != api.OK {
				t.Errorf("Get: %v, %d, %v, not %v", v, n, e, put[n])
			}
		}
		return plays.Watched(func() {
			v, n, _ := b.Get(nil)
			if v != put[n] {
				t.Errorf("%v has the number %d, not %v", v, n, put[n])
			}
			numbers = append(numbers, n)
		}, append(threads, reader)...)
	}, func(p api.Played) {
		if !slices.Equal(slices.Compact(numbers), []uint64{0, 1, 2, 3, 4}) {
			t.Errorf("by %v: the numbers %v", plays.Order(p.Trace), numbers)
		}
	})
}

func TestP35OneTryOfANumberAtMostSaysTrue(t *testing.T) {
	var b *Box[int]
	var won [3]int
	everyPlay(t, func() []func(g api.Gate) {
		b, won = NewBox(0), [3]int{}
		try := func(numbers ...uint64) func(g api.Gate) {
			return func(g api.Gate) {
				for _, n := range numbers {
					if ok, _ := b.Try(g, n, 7); ok {
						won[n]++
					}
				}
			}
		}
		return []func(g api.Gate){try(0, 1), try(0, 1), try(1, 0)}
	}, func(p api.Played) {
		_, n, _ := b.Get(nil)
		if won[0] != 1 || won[1] > 1 || n != uint64(won[0]+won[1]) {
			t.Errorf("by %v: %v said true, the number is %d", plays.Order(p.Trace), won, n)
		}
	})
}

func TestP35HowManyOperationsACallHas(t *testing.T) {
	type call func(c *Counter, b *Box[int], g api.Gate)
	up := func(c *Counter, b *Box[int], g api.Gate) { c.Up(g, 1, top-1) }
	put := func(c *Counter, b *Box[int], g api.Gate) { b.Put(g, 1) }
	for _, x := range []struct {
		name            string
		slow, overtakes call
	}{
		{"Up", up, up},
		{"Down", func(c *Counter, b *Box[int], g api.Gate) { c.Down(g, 0) }, up},
		{"Max", func(c *Counter, b *Box[int], g api.Gate) { c.Max(g, top) }, up},
		{"Put", put, put},
	} {
		for others := range api.MaxThreads {
			c, b := NewCounter(0), NewBox(0)
			threads := []func(g api.Gate){func(g api.Gate) { x.slow(c, b, g) }}
			order := []int{}
			for k := range others {
				// Between its Load and its CAS another one comes through.
				order = append(order, 0, k+1, k+1, 0)
				threads = append(threads, func(g api.Gate) { x.overtakes(c, b, g) })
			}
			p, e := turn.Play(order, threads...)
			had := 0
			for _, turned := range p.Trace {
				if turned.Thread == 0 {
					had++
				}
			}
			if want := 2*others + 2; e != api.OK || had != want || len(p.Trace) != want+2*others {
				t.Errorf("%s, overtaken %d times: %d operations, not %d", x.name, others, had, want)
			}
		}
	}
}
