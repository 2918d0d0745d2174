package flow_test

import (
	"bytes"
	"math/rand"
	"testing"

	"patchbay/api"
	"patchbay/flow"
	"patchbay/packet"
)

func TestP174UnlikeKeysHaveUnlikeBytes(t *testing.T) {
	keysOf, placesOf := map[string]api.Key{}, map[api.Key]int{}
	r := rand.New(rand.NewSource(1742))
	list := keys()
	for range 5000 {
		list = append(list, drawn(r))
	}
	for i, k := range list {
		b := string(flow.Bytes(k))
		if first, ok := keysOf[b]; ok && first != k {
			t.Fatalf("%v and %v have the bytes % x", first, k, b)
		}
		keysOf[b], placesOf[k] = k, i
	}
	if len(keysOf) != len(placesOf) {
		t.Errorf("%d keys have %d texts of bytes", len(placesOf), len(keysOf))
	}
}

func TestP174OneFieldAlone(t *testing.T) {
	for _, k := range append(strange(), api.Key{}, plain(), wide()) {
		for name, other := range fields(k) {
			if k == other || bytes.Equal(flow.Bytes(k), flow.Bytes(other)) || flow.Hash(k) == flow.Hash(other) || flow.Compare(k, other) == 0 {
				t.Errorf("%v, and with another %s: the same", k, name)
			}
		}
	}
}

func TestP174OneByteAlone(t *testing.T) {
	for _, k := range append(strange(), api.Key{}, plain(), wide()) {
		for place := range size {
			for _, x := range others(k, place) {
				want := flow.Bytes(k)
				want[place] = x
				if got := flow.Bytes(with(k, place, x)); !bytes.Equal(got, want) {
					t.Fatalf("%v with another byte at %d: % x, not % x", k, place, got, want)
				}
			}
		}
	}
}

func TestP174BackOfBack(t *testing.T) {
	r := rand.New(rand.NewSource(1743))
	list := keys()
	for range 1000 {
		list = append(list, drawn(r))
	}
	for _, k := range list {
		if got := flow.Back(flow.Back(k)); got != k {
			t.Fatalf("Back(Back(%v)): %v", k, got)
		}
		if flow.Back(k) == k && (k.Src != k.Dst || k.SrcPort != k.DstPort) {
			t.Fatalf("Back(%v) is the key", k)
		}
	}
	same := api.Key{Src: six(1, 2), Dst: six(1, 2), Proto: 6, SrcPort: 9, DstPort: 9}
	if flow.Back(same) != same {
		t.Errorf("Back(%v): %v", same, flow.Back(same))
	}
}

func TestP174HeadersChangedAbout(t *testing.T) {
	r := rand.New(rand.NewSource(1744))
	for proto := range 256 {
		for _, k := range few() {
			k.Proto = uint8(proto)
			h := header(r, k)
			about := header(r, k)
			about.Src, about.Dst, about.SrcPort, about.DstPort = h.Dst, h.Src, h.DstPort, h.SrcPort
			if flow.Of(about) != flow.Back(flow.Of(h)) {
				t.Fatalf("Of(%v): %v, not %v", about, flow.Of(about), flow.Back(flow.Of(h)))
			}
		}
	}
}

// differ answers headers that have the key of h, each of which differs from it in one field alone.
func differ(h api.Header) []api.Header {
	list := []api.Header{h}
	with := func(change func(h *api.Header)) {
		other := h
		change(&other)
		list = append(list, other)
	}
	for _, x := range []uint32{0, 1, 1<<32 - 1} {
		with(func(h *api.Header) { h.TTL = uint8(x) })
		with(func(h *api.Header) { h.Class = uint8(x) })
		with(func(h *api.Header) { h.Id = x })
		with(func(h *api.Header) { h.Flags = uint8(x) })
		with(func(h *api.Header) { h.Seq = x })
	}
	for _, data := range [][]byte{nil, {}, {0}, {1, 2, 3}, make([]byte, api.MaxPacket+1)} {
		with(func(h *api.Header) { h.Data = data })
	}
	return list
}

func TestP174TheKeyAlone(t *testing.T) {
	r := rand.New(rand.NewSource(1745))
	for _, k := range append(few(), drawn(r), drawn(r)) {
		first := header(r, k)
		for _, h := range append(differ(first), header(r, k)) {
			a, b := flow.Of(first), flow.Of(h)
			if a != b || flow.Compare(a, b) != 0 {
				t.Fatalf("Of(%v): %v, not %v", h, b, a)
			}
			sameLanes(t, a, b)
		}
	}
}

// sameLanes tells of two keys that do not have all lanes, and some parts, in common.
func sameLanes(t *testing.T, a, b api.Key) {
	t.Helper()
	for n := 1; n <= api.MaxLanes; n++ {
		x, e1 := flow.Lane(a, n)
		y, e2 := flow.Lane(b, n)
		if x != y || x < 0 || x >= n || e1 != api.OK || e2 != api.OK {
			t.Fatalf("of %d lanes %v has %d, %v, and %v has %d, %v", n, a, x, e1, b, y, e2)
		}
	}
	for _, of := range []uint64{1, 100, api.MaxParts + 1, 1 << 50} {
		x, e1 := flow.Part(a, of)
		y, e2 := flow.Part(b, of)
		if x != y || x >= of || e1 != api.OK || e2 != api.OK {
			t.Fatalf("of %d parts %v has %d, %v, and %v has %d, %v", of, a, x, e1, b, y, e2)
		}
	}
}

// Where ports are no part of the key, packets that differ in these alone are of one flow.
func TestP174NoPorts(t *testing.T) {
	r := rand.New(rand.NewSource(1746))
	for proto := range 256 {
		k := plain()
		k.Proto = uint8(proto)
		h := header(r, k)
		other := h
		other.SrcPort++
		other.DstPort--
		one := flow.Of(h) == flow.Of(other)
		if one == (proto == 6 || proto == 17) {
			t.Errorf("packets of %d that differ in their ports are of one flow: %v", proto, one)
		}
	}
}

// Some packets of five flows, as they are read from bytes, and handed on.
func TestP174PacketsOfOneFlow(t *testing.T) {
	seen := map[api.Key]int{}
	for _, k := range []api.Key{plain(), flow.Back(plain()), wide(), flow.Back(wide()), {Src: four(1, 2, 3, 4), Dst: four(5, 6, 7, 8), Proto: 1}} {
		for ttl := range 4 {
			b, e := packet.Make(api.Header{Src: k.Src, Dst: k.Dst, Proto: k.Proto, SrcPort: k.SrcPort, DstPort: k.DstPort, TTL: uint8(ttl + 2), Data: []byte{byte(ttl)}})
			if e != api.OK {
				t.Fatal(e)
			}
			for range 2 {
				h, _, e := packet.Read(b)
				if e != api.OK {
					t.Fatal(e)
				}
				seen[flow.Of(h)]++
				if b, e = packet.Older(b); e != api.OK {
					t.Fatal(e)
				}
			}
		}
		if seen[k] != 8 {
			t.Errorf("%v: %d of its 8 packets are of its flow", k, seen[k])
		}
	}
	if len(seen) != 5 {
		t.Errorf("5 flows have %d keys", len(seen))
	}
}

// What was asked ahead, and of which key, changes nothing.
func TestP174AskedAgain(t *testing.T) {
	r := rand.New(rand.NewSource(1747))
	list := keys()
	for range 3 {
		r.Shuffle(len(list), func(i, j int) { list[i], list[j] = list[j], list[i] })
		for _, k := range list {
			is(t, k)
			lanes(t, k, 16, int(hashSays(k)%16), api.OK)
			parts(t, k, 100, hashSays(k)>>20%100, api.OK)
		}
	}
}
