package packet_test

import (
	"bytes"
	"math/rand"
	"testing"

	"patchbay/api"
	"patchbay/packet"
)

// ages tells of an Older that answers anything but that.
func ages(t *testing.T, b, want []byte, e api.Errno) {
	t.Helper()
	if got, gotE := packet.Older(b); !bytes.Equal(got, want) || gotE != e || e != api.OK && got != nil {
		t.Fatalf("Older(% x): % x, %v; not % x, %v", b, got, gotE, want, e)
	}
}

func TestP163Older(t *testing.T) {
	list := headers()
	r := rand.New(rand.NewSource(163))
	for range 2000 {
		list = append(list, drawn(r))
	}
	for _, h := range list {
		b := made(t, h)
		if h.TTL == 0 {
			ages(t, b, nil, api.ErrState)
			ages(t, append(b, 1, 2, 3), nil, api.ErrState)
			continue
		}
		h.TTL--
		ages(t, b, makeSays(h), api.OK)
		ages(t, append(b, 1, 2, 3), makeSays(h), api.OK)
	}
}

func TestP163OlderOfNoPacket(t *testing.T) {
	r := rand.New(rand.NewSource(1630))
	for _, h := range short() {
		for _, ttl := range []uint8{0, 1, 255} {
			h.TTL = ttl
			b := made(t, h)
			for range 20 {
				x := set(b, r.Intn(len(b)), byte(r.Intn(256)))[:r.Intn(len(b)+1)]
				if _, _, e := readSays(x); e != api.OK {
					ages(t, x, nil, e)
				}
			}
		}
	}
	ages(t, nil, nil, api.ErrShort)
	ages(t, []byte{0x45}, nil, api.ErrShort)
	ages(t, []byte{0x35}, nil, api.ErrForm)
	ages(t, set(wire(), 28, 2), nil, api.ErrSum)
	// Read's error is named first.
	ages(t, set(wire(), 8, 0), nil, api.ErrSum)
}

func TestP163OlderKeepsOffWhatIsHandedIn(t *testing.T) {
	for _, h := range short() {
		h.TTL |= 1
		whole, part := fenced(made(t, h))
		was := bytes.Clone(whole)
		got, e := packet.Older(part)
		if e != api.OK || !bytes.Equal(whole, was) {
			t.Fatalf("Older wrote into what it was handed: %v", e)
		}
		clear(got[:cap(got)])
		if !bytes.Equal(whole, was) {
			t.Fatal("what Older answers shares with what was handed in")
		}
		got, _ = packet.Older(part)
		clear(whole)
		h.TTL--
		if !bytes.Equal(got, makeSays(h)) {
			t.Fatal("what was handed in is kept")
		}
	}
}

// turns are all that can be turned in a header's fields, bit by bit.
func turns() []func(h *api.Header) {
	list := []func(h *api.Header){
		func(h *api.Header) { h.Src.V6 = !h.Src.V6 },
		func(h *api.Header) { h.Dst.V6 = !h.Dst.V6 },
		func(h *api.Header) { h.Data = append(bytes.Clone(h.Data), 0) },
	}
	for i := range 128 {
		list = append(list,
			func(h *api.Header) { h.Src.B[i/8] ^= 1 << (i % 8) },
			func(h *api.Header) { h.Dst.B[i/8] ^= 1 << (i % 8) })
	}
	for i := range 8 {
		list = append(list,
			func(h *api.Header) { h.Proto ^= 1 << i },
			func(h *api.Header) { h.TTL ^= 1 << i },
			func(h *api.Header) { h.Class ^= 1 << i },
			func(h *api.Header) { h.Flags ^= 1 << i })
	}
	for i := range 16 {
		list = append(list,
			func(h *api.Header) { h.SrcPort ^= 1 << i },
			func(h *api.Header) { h.DstPort ^= 1 << i })
	}
	for i := range 32 {
		list = append(list,
			func(h *api.Header) { h.Id ^= 1 << i },
			func(h *api.Header) { h.Seq ^= 1 << i })
	}
	return list
}

func TestP163Same(t *testing.T) {
	for _, h := range short() {
		same := h
		same.Data = bytes.Clone(h.Data)
		if !packet.Same(h, h) || !packet.Same(h, same) {
			t.Fatalf("%v is not the same as itself", h)
		}
		for i, turn := range turns() {
			other := same
			turn(&other)
			if packet.Same(h, other) || packet.Same(other, h) {
				t.Fatalf("%v, and with the change %d", h, i)
			}
			// Of headers that may not be, too.
			copied := other
			copied.Data = bytes.Clone(other.Data)
			if !packet.Same(other, copied) {
				t.Fatalf("%v is not the same as itself", other)
			}
		}
		for i := range h.Data {
			other := same
			other.Data = set(same.Data, i, same.Data[i]^1)
			if packet.Same(h, other) || packet.Same(other, h) {
				t.Fatalf("%v, and with another byte %d of Data", h, i)
			}
		}
		for n := range h.Data {
			other := same
			other.Data = same.Data[:n]
			if packet.Same(h, other) || packet.Same(other, h) {
				t.Fatalf("%v, and with %d bytes of its Data", h, n)
			}
		}
	}
}

func TestP163SameOfNoDataAndOfMuch(t *testing.T) {
	a, b := plain(), plain()
	a.Data, b.Data = nil, []byte{}
	if !packet.Same(a, b) || !packet.Same(b, a) || !packet.Same(api.Header{}, api.Header{}) {
		t.Error("an empty list may be nil or empty")
	}
	a.Data, b.Data = data(100000), data(100000)
	if !packet.Same(a, b) {
		t.Error("of more Data than may be")
	}
	b.Data[99999]++
	if packet.Same(a, b) {
		t.Error("of more Data than may be, with another byte at its end")
	}
}

func TestP167OlderTillTheEnd(t *testing.T) {
	for _, h := range short() {
		for _, ttl := range []uint8{0, 1, 2, 64, 255} {
			h.TTL = ttl
			b := made(t, h)
			first := bytes.Clone(b)
			for left := int(ttl) - 1; left >= 0; left-- {
				older, e := packet.Older(b)
				if e != api.OK {
					t.Fatalf("Older of %v at %d: %v", h, left+1, e)
				}
				want := h
				want.TTL = uint8(left)
				reads(t, older, want, len(first), api.OK)
				if bare := blank(h, older); !bytes.Equal(bare, blank(h, first)) {
					t.Fatalf("Older of %v changes more than TTL: % x", h, older)
				}
				b = older
			}
			ages(t, b, nil, api.ErrState)
			ages(t, b, nil, api.ErrState)
		}
	}
}

// blank answers the packet with noughts for TTL, and for the sum of an IPv4 front.
func blank(h api.Header, b []byte) []byte {
	if h.Src.V6 {
		return set(b, 7, 0)
	}
	return set(set(b, 8, 0), 10, 0, 0)
}

func TestP167Examples(t *testing.T) {
	b := set(set(wire(), 8, 63), 10, 0x27, 0xce)
	ages(t, wire(), b, api.OK)
	for range 63 {
		b, _ = packet.Older(b)
	}
	h := plain()
	h.TTL = 0
	reads(t, b, h, 29, api.OK)
	ages(t, b, nil, api.ErrState)
}
