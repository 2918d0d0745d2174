package seq_test

import (
	"math"
	"slices"
	"testing"

	"patchbay/api"
	"patchbay/plays"
	"patchbay/seq"
)

func TestP51NewThatMayNotBe(t *testing.T) {
	for _, x := range []struct {
		words []uint64
		want  api.Errno
	}{
		{nil, api.ErrArg},
		{[]uint64{}, api.ErrArg},
		{[]uint64{1, 2, 3}[:0], api.ErrArg},
		{make([]uint64, api.MaxWords+1), api.ErrLong},
		{make([]uint64, api.MaxWords+2), api.ErrLong},
		{make([]uint64, 2*api.MaxWords), api.ErrLong},
		{make([]uint64, 1<<20), api.ErrLong},
	} {
		if r, e := seq.New(x.words...); r != nil || e != x.want {
			t.Errorf("New of %d words: %v, %v, not %v", len(x.words), r, e, x.want)
		}
	}
}

func TestP51NewHasItsWords(t *testing.T) {
	for n := 1; n <= api.MaxWords; n++ {
		for _, words := range [][]uint64{several(n, 1), make([]uint64, n), slices.Repeat([]uint64{top}, n)} {
			recordIs(t, "New", made(t, words...), 0, words...)
		}
	}
	recordIs(t, "edges", made(t, 0, 1, 1<<32, 1<<63-1, 1<<63, top-1, top), 0, 0, 1, 1<<32, 1<<63-1, 1<<63, top-1, top)
}

func TestP51RecordsAreTheirOwn(t *testing.T) {
	words := several(3, 1)
	a, b := made(t, words...), made(t, words...)
	a.Write(nil, 7, 8, 9)
	recordIs(t, "a", a, 2, 7, 8, 9)
	recordIs(t, "b", b, 0, several(3, 1)...)
}

func TestP51LenStays(t *testing.T) {
	for n := 1; n <= api.MaxWords; n++ {
		r := stuck(t, n)
		r.Write(nil, several(n, 3)...)
		r.Write(nil, several(n+1, 3)...)
		if got := r.Len(); got != n {
			t.Errorf("Len: %d, not %d", got, n)
		}
	}
}

func TestP52Examples(t *testing.T) {
	r := made(t, 5, 6)
	is(t, "Read", read(r.Read(nil)), answer{[]uint64{5, 6}, 0, api.OK})
	is(t, "Write", wrote(r.Write(nil, 7, 8)), answer{nil, 2, api.OK})
	is(t, "Read", read(r.Read(nil)), answer{[]uint64{7, 8}, 2, api.OK})
	is(t, "Write of one", wrote(r.Write(nil, 1)), answer{nil, 0, api.ErrArg})
	tells(t, "Write", func(g api.Gate) { r.Write(g, 7, 8) }, load(0), cas(0), store(1), store(2), store(0))
	is(t, "Wait(0)", read(r.Wait(nil, 0)), answer{nil, 0, api.ErrArg})
	is(t, "Wait(3)", read(r.Wait(nil, 3)), answer{[]uint64{7, 8}, 4, api.OK})
}

func TestP52WritesOfAllSizes(t *testing.T) {
	for n := 1; n <= api.MaxWords; n++ {
		r := made(t, several(n, 1)...)
		for i := range uint64(4) {
			words := several(n, 2+i)
			tells(t, "Write", func(g api.Gate) {
				is(t, "Write", wrote(r.Write(g, words...)), answer{nil, 4*i + 2, api.OK})
			}, writeSteps(n)...)
			recordIs(t, "behind it", r, 4*i+2, words...)
			is(t, "free", wrote(r.Write(nil, several(n, 90+i)...)), answer{nil, 4*i + 4, api.OK})
			recordIs(t, "behind a free one", r, 4*i+4, several(n, 90+i)...)
		}
	}
}

func TestP52TheSameWordsAreAnotherVersion(t *testing.T) {
	r := made(t, 0, top)
	for i := range uint64(100) {
		is(t, "Write", wrote(r.Write(nil, 0, top)), answer{nil, 2*i + 2, api.OK})
		recordIs(t, "behind it", r, 2*i+2, 0, top)
	}
}

func TestP52WritesOfAnotherCount(t *testing.T) {
	for n := 1; n <= api.MaxWords; n++ {
		r, odd := made(t, several(n, 1)...), stuck(t, n)
		r.Write(nil, several(n, 2)...)
		for _, m := range []int{0, 1, n - 1, n + 1, 2 * n, api.MaxWords, api.MaxWords + 1, 1 << 16} {
			if m == n {
				continue
			}
			tells(t, "Write of another count", func(g api.Gate) {
				is(t, "Write of another count", wrote(r.Write(g, several(m, 3)...)), answer{nil, 0, api.ErrArg})
				// Ahead of all operations: whoever writes is not met.
				is(t, "beside one that writes", wrote(odd.Write(g, several(m, 3)...)), answer{nil, 0, api.ErrArg})
			})
			is(t, "free", wrote(r.Write(nil, several(m, 3)...)), answer{nil, 0, api.ErrArg})
			recordIs(t, "behind it", r, 2, several(n, 2)...)
		}
	}
}

func TestP52WhatIsHandedInIsNotChangedAndNotKept(t *testing.T) {
	room := []uint64{1, 2, 3, 4, 5}
	r := made(t, room[1:3]...)
	recordIs(t, "New", r, 0, 2, 3)
	room[1], room[2] = 8, 9
	recordIs(t, "behind a change of New's list", r, 0, 2, 3)
	r.Write(nil, room[1:3]...)
	recordIs(t, "Write", r, 2, 8, 9)
	if !slices.Equal(room, []uint64{1, 8, 9, 4, 5}) {
		t.Errorf("the list: %v", room)
	}
	room[1], room[2] = 6, 7
	recordIs(t, "behind a change of Write's list", r, 2, 8, 9)
}

func TestP52WhoMeetsOneThatWrites(t *testing.T) {
	for n := 1; n <= api.MaxWords; n++ {
		r := stuck(t, n)
		for range 2 {
			tells(t, "Write", func(g api.Gate) {
				is(t, "Write", wrote(r.Write(g, several(n, 3)...)), answer{nil, 0, api.ErrBusy})
			}, load(0))
			is(t, "Write, free", wrote(r.Write(nil, several(n, 3)...)), answer{nil, 0, api.ErrBusy})
		}
	}
}

func TestP53ReadsOfAllSizes(t *testing.T) {
	for n := 1; n <= api.MaxWords; n++ {
		r := made(t, several(n, 1)...)
		for i := range uint64(3) {
			for range 2 {
				tells(t, "Read", func(g api.Gate) {
					is(t, "Read", read(r.Read(g)), answer{several(n, 1+i), 2 * i, api.OK})
				}, readSteps(n)...)
			}
			r.Write(nil, several(n, 2+i)...)
		}
	}
}

func TestP53WhoMeetsOneThatWrites(t *testing.T) {
	for n := 1; n <= api.MaxWords; n++ {
		r := stuck(t, n)
		for range 2 {
			tells(t, "Read", func(g api.Gate) {
				is(t, "Read", read(r.Read(g)), answer{nil, 0, api.ErrTorn})
			}, load(0))
			is(t, "Read, free", read(r.Read(nil)), answer{nil, 0, api.ErrTorn})
		}
	}
}

func TestP53WhatIsAnsweredIsNew(t *testing.T) {
	r := made(t, 5, 6, 7)
	for name, ask := range map[string]func() []uint64{
		"Read": func() []uint64 { l, _, _ := r.Read(nil); return l },
		"Wait": func() []uint64 { l, _, _ := r.Wait(nil, 2); return l },
	} {
		a, b := ask(), ask()
		a[0], a[2] = 8, 9
		_ = append(a[:1], 1, 1)
		_ = append(a, 1)
		if !slices.Equal(b, []uint64{5, 6, 7}) {
			t.Errorf("%s: two answers share: %v", name, b)
		}
		recordIs(t, name, r, 0, 5, 6, 7)
	}
	l, _, _ := r.Read(nil)
	r.Write(nil, 1, 2, 3)
	if !slices.Equal(l, []uint64{5, 6, 7}) {
		t.Errorf("behind a Write an answer is %v", l)
	}
}

func TestP54Tries(t *testing.T) {
	for n := 1; n <= api.MaxWords; n += 5 {
		r, odd := made(t, several(n, 1)...), stuck(t, n)
		r.Write(nil, several(n, 2)...)
		for _, tries := range []int{0, -1, math.MinInt, api.MaxTurns + 1, 2 * api.MaxTurns, 1 << 32, math.MaxInt} {
			tells(t, "Wait", func(g api.Gate) {
				is(t, "Wait that may not be", read(r.Wait(g, tries)), answer{nil, 0, api.ErrArg})
				is(t, "beside one that writes", read(odd.Wait(g, tries)), answer{nil, 0, api.ErrArg})
			})
			is(t, "Wait that may not be, free", read(r.Wait(nil, tries)), answer{nil, 0, api.ErrArg})
		}
		for _, tries := range []int{1, 2, 3, 1000, api.MaxTurns - 1, api.MaxTurns} {
			tells(t, "Wait", func(g api.Gate) {
				is(t, "Wait", read(r.Wait(g, tries)), answer{several(n, 2), 2, api.OK})
			}, readSteps(n)...)
			is(t, "Wait, free", read(r.Wait(nil, tries)), answer{several(n, 2), 2, api.OK})
		}
	}
}

func TestP54SoManyTriesAndNoMore(t *testing.T) {
	r := stuck(t, 2)
	for _, tries := range []int{1, 2, 3, 1000, api.MaxTurns - 1, api.MaxTurns} {
		tells(t, "Wait", func(g api.Gate) {
			is(t, "Wait", read(r.Wait(g, tries)), answer{nil, 0, api.ErrTorn})
		}, slices.Repeat([]api.Mark{load(0)}, tries)...)
		is(t, "Wait, free", read(r.Wait(nil, tries)), answer{nil, 0, api.ErrTorn})
	}
}

func TestP51RecordsThatAreNone(t *testing.T) {
	whole := made(t, 5, 6)
	for name, r := range map[string]*seq.Record{"nil": nil, "a zero value": {}, "new": new(seq.Record), "a copy": plays.Copied(whole)} {
		tells(t, name, func(g api.Gate) {
			for _, g := range []api.Gate{g, nil} {
				if n := r.Len(); n != 0 {
					t.Errorf("%s: Len: %d", name, n)
				}
				// ErrNil also where there is more that is wrong.
				for _, words := range [][]uint64{nil, {1}, {7, 8}, make([]uint64, api.MaxWords+1)} {
					is(t, name+": Write", wrote(r.Write(g, words...)), answer{nil, 0, api.ErrNil})
				}
				is(t, name+": Read", read(r.Read(g)), answer{nil, 0, api.ErrNil})
				for _, tries := range []int{1, 3, 0, -1, api.MaxTurns + 1} {
					is(t, name+": Wait", read(r.Wait(g, tries)), answer{nil, 0, api.ErrNil})
				}
			}
		})
	}
	recordIs(t, "the whole one", whole, 0, 5, 6)
}
