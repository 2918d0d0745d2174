package cell

import (
	"slices"
	"testing"

	"patchbay/api"
	"patchbay/plays"
)

const (
	manyThreads = 8
	manyCalls   = 20000
)

// free runs as many threads at a time, each with its number.
func free(t *testing.T, body func(k int)) {
	t.Helper()
	if e := plays.Free(manyThreads, body); e != api.OK {
		t.Fatalf("Free: %v", e)
	}
}

func TestP33FreeUpsAndDowns(t *testing.T) {
	const most = 3
	c := NewCounter(1)
	var in [manyThreads]uint64
	free(t, func(k int) {
		for i := range manyCalls {
			n := uint64(i % 3)
			if v, ok, _ := c.Up(nil, n, most); ok {
				in[k] += n
			} else if v+n <= most {
				t.Errorf("Up(%d) said false of %d", n, v)
			}
			if v, _ := c.Get(nil); v > most {
				t.Errorf("%d, above %d", v, most)
			}
			if v, ok, _ := c.Down(nil, 1); ok {
				in[k]--
			} else if v != 0 {
				t.Errorf("Down(1) said false of %d", v)
			}
		}
	})
	sum := uint64(1)
	for _, n := range in {
		sum += n
	}
	counterIs(t, c, sum)
}

func TestP31FreeAddsAndUps(t *testing.T) {
	for name, do := range map[string]func(c *Counter) uint64{
		"Add": func(c *Counter) uint64 { v, _ := c.Add(nil, 1); return v },
		"Up":  func(c *Counter) uint64 { v, _, _ := c.Up(nil, 1, top); return v },
	} {
		c := NewCounter(0)
		var sums [manyThreads][]uint64
		free(t, func(k int) {
			for range manyCalls {
				sums[k] = append(sums[k], do(c))
			}
		})
		// Each sum is one call's alone.
		for i, v := range slices.Sorted(slices.Values(slices.Concat(sums[:]...))) {
			if v != uint64(i+1) {
				t.Fatalf("%s: the sum %d of all is %d", name, i, v)
			}
		}
		counterIs(t, c, manyThreads*manyCalls)
	}
}

func TestP34FreeSetsAndClears(t *testing.T) {
	f := NewFlag()
	var said [manyThreads]int
	free(t, func(k int) {
		do := f.Set
		if k%2 == 1 {
			do = f.Clear
		}
		for range manyCalls {
			if ok, _ := do(nil); ok {
				said[k]++
			}
		}
	})
	set, cleared := 0, 0
	for k := 0; k < manyThreads; k += 2 {
		set, cleared = set+said[k], cleared+said[k+1]
	}
	// In turns: there is a Set without a Clear just if it is set.
	is, _ := f.Get(nil)
	if is {
		cleared++
	}
	if set != cleared {
		t.Errorf("%d Sets said true, not %d; it is set: %v", set, cleared, is)
	}
}

func TestP34FreeMaxes(t *testing.T) {
	c := NewCounter(5)
	var rose [manyThreads][]uint64
	free(t, func(k int) {
		for i := range uint64(manyCalls) {
			v := i*manyThreads + uint64(k)
			if ok, _ := c.Max(nil, v); ok {
				rose[k] = append(rose[k], v)
			}
			if now, _ := c.Get(nil); now < v {
				t.Errorf("%d behind a Max of %d", now, v)
			}
		}
	})
	counterIs(t, c, manyThreads*manyCalls-1)
	for k, list := range rose {
		if !slices.IsSorted(list) {
			t.Errorf("thread %d: %v", k, list)
		}
	}
}

func TestP35FreePuts(t *testing.T) {
	b := NewBox(pair{-1, -1})
	type put struct {
		number uint64
		value  pair
	}
	var puts, gets [manyThreads][]put
	free(t, func(k int) {
		for i := range manyCalls {
			v := pair{k, i}
			n, _ := b.Put(nil, v)
			puts[k] = append(puts[k], put{n, v})
			now, number, _ := b.Get(nil)
			gets[k] = append(gets[k], put{number, now})
			if number < n {
				t.Errorf("the number %d behind a Put of %d", number, n)
			}
		}
	})
	of := map[uint64]pair{0: {-1, -1}}
	for _, x := range slices.Concat(puts[:]...) {
		of[x.number] = x.value
	}
	if _, n, _ := b.Get(nil); n != manyThreads*manyCalls || len(of) != manyThreads*manyCalls+1 {
		t.Errorf("the number %d, and %d numbers in all", n, len(of))
	}
	for _, x := range slices.Concat(gets[:]...) {
		if x.value != of[x.number] {
			t.Fatalf("Get: %v has the number %d, not %v", x.value, x.number, of[x.number])
		}
	}
}

func TestP35FreeTrys(t *testing.T) {
	b := NewBox(0)
	var won [manyThreads]int
	free(t, func(k int) {
		for range manyCalls {
			v, n, _ := b.Get(nil)
			if v != int(n) {
				t.Errorf("%d has the number %d", v, n)
			}
			if ok, _ := b.Try(nil, n, v+1); ok {
				won[k]++
			}
		}
	})
	sum := 0
	for _, n := range won {
		sum += n
	}
	boxIs(t, b, sum, uint64(sum))
}
