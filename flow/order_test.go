package flow_test

import (
	"math/rand"
	"slices"
	"testing"

	"patchbay/api"
	"patchbay/flow"
)

func TestP173Compare(t *testing.T) {
	compares(t, plain(), flow.Back(plain()), -1)
	compares(t, plain(), plain(), 0)
	compares(t, api.Key{}, greatest(), -1)
	compares(t, api.Key{}, api.Key{}, 0)
	compares(t, greatest(), greatest(), 0)
	compares(t, plain(), wide(), -1)
}

// Src ahead of Dst, the kind ahead of the bytes, and so on; of ports the higher byte.
func TestP173CompareByWhichField(t *testing.T) {
	k := api.Key{Src: four(9, 9, 9, 9), Dst: four(9, 9, 9, 9), Proto: 9, SrcPort: 0x0909, DstPort: 0x0909}
	change := []func(k *api.Key, by int){
		func(k *api.Key, by int) { k.Src.V6 = by > 0 },
		func(k *api.Key, by int) { k.Src.B[0] += byte(by) },
		func(k *api.Key, by int) { k.Src.B[15] += byte(by + 1) },
		func(k *api.Key, by int) { k.Dst.V6 = by > 0 },
		func(k *api.Key, by int) { k.Dst.B[0] += byte(by) },
		func(k *api.Key, by int) { k.Dst.B[15] += byte(by + 1) },
		func(k *api.Key, by int) { k.Proto += byte(by) },
		func(k *api.Key, by int) { k.SrcPort += uint16(by * 256) },
		func(k *api.Key, by int) { k.SrcPort += uint16(by) },
		func(k *api.Key, by int) { k.DstPort += uint16(by * 256) },
		func(k *api.Key, by int) { k.DstPort += uint16(by) },
	}
	for i, first := range change {
		for _, later := range change[i+1:] {
			a, b := k, k
			first(&a, -1)
			later(&a, 1)
			first(&b, 1)
			later(&b, -1)
			compares(t, a, b, -1)
		}
	}
}

// byteUp answers two keys that differ in that byte alone, the lesser one first.
func byteUp(k api.Key, place int, low, high byte) (a, b api.Key) {
	if place == srcKindAt || place == dstKindAt {
		low, high = 0, 1
	}
	return with(k, place, low), with(k, place, high)
}

func TestP173CompareByOneByte(t *testing.T) {
	for _, k := range append(strange(), api.Key{}, plain(), wide()) {
		for place := range size {
			// 127 and 128 tell of one who takes bytes for numbers that may be below 0.
			for _, x := range [][2]byte{{0, 1}, {0, 255}, {1, 255}, {127, 128}, {127, 255}, {254, 255}} {
				a, b := byteUp(k, place, x[0], x[1])
				compares(t, a, b, -1)
				compares(t, a, a, 0)
				compares(t, b, b, 0)
			}
		}
	}
}

func TestP173CompareByTheFirstOfTwoBytes(t *testing.T) {
	for _, k := range []api.Key{{}, plain(), wide(), greatest()} {
		for first := range size {
			for second := first + 1; second < size; second++ {
				a, b := byteUp(k, first, 127, 128)
				_, a = byteUp(a, second, 0, 255)
				b, _ = byteUp(b, second, 0, 255)
				compares(t, a, b, -1)
			}
		}
	}
}

func TestP173CompareAsTheBytesSay(t *testing.T) {
	r := rand.New(rand.NewSource(1731))
	list := few()
	for range 50 {
		list = append(list, drawn(r))
	}
	for _, a := range list {
		for _, b := range list {
			compares(t, a, b, compareSays(a, b))
		}
	}
	for range 2000 {
		a, n := bytesSays(drawn(r)), r.Intn(size+1)
		b := append(slices.Clone(a[:n]), bytesSays(drawn(r))[n:]...)
		compares(t, keySays(a), keySays(b), compareSays(keySays(a), keySays(b)))
	}
}

func TestP174CompareIsAnOrder(t *testing.T) {
	list := few()
	for _, a := range list {
		for _, b := range list {
			ab := flow.Compare(a, b)
			if ab != -flow.Compare(b, a) || (ab == 0) != (a == b) {
				t.Fatalf("Compare(%v, %v): %d; the other way round %d", a, b, ab, flow.Compare(b, a))
			}
			if ab >= 0 {
				continue
			}
			for _, c := range list {
				if flow.Compare(b, c) < 0 && flow.Compare(a, c) >= 0 {
					t.Fatalf("%v, %v, %v are in order, but not the first and the last", a, b, c)
				}
			}
		}
	}
}

func TestP174CompareSorts(t *testing.T) {
	r := rand.New(rand.NewSource(1741))
	list := keys()
	for range 200 {
		list = append(list, drawn(r))
	}
	want := slices.Clone(list)
	slices.SortFunc(want, compareSays)
	for range 3 {
		r.Shuffle(len(list), func(i, j int) { list[i], list[j] = list[j], list[i] })
		slices.SortFunc(list, flow.Compare)
		if !slices.Equal(list, want) {
			t.Fatal("keys that Compare sorted are not in the order of their bytes")
		}
	}
}
