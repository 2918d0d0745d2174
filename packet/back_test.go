package packet_test

import (
	"bytes"
	"math/rand"
	"testing"

	"patchbay/api"
	"patchbay/packet"
)

// many are headers of all kinds: edges, and drawn ones.
func many(seed int64) []api.Header {
	list := short()
	r := rand.New(rand.NewSource(seed))
	for range 500 {
		list = append(list, drawn(r))
	}
	return list
}

func TestP164ThereAndBack(t *testing.T) {
	for _, h := range append(many(164), headers()...) {
		b := made(t, h)
		got, n, e := packet.Read(b)
		if !packet.Same(got, h) || !sameSays(got, h) || n != len(b) || e != api.OK {
			t.Fatalf("Read of Make(%v): %v, %d, %v", h, got, n, e)
		}
		for _, behind := range [][]byte{{0}, {255, 255}, b, make([]byte, 3000)} {
			reads(t, append(bytes.Clone(b), behind...), h, len(b), api.OK)
		}
	}
}

func TestP164WhatIsReadIsMade(t *testing.T) {
	r := rand.New(rand.NewSource(1640))
	read := 0
	for range 40000 {
		h := drawn(r)
		b := made(t, h)
		b[r.Intn(len(b))] ^= 1 << r.Intn(8)
		b[r.Intn(len(b))] = byte(r.Intn(256))
		b = withSums(h, b)
		got, n, e := packet.Read(b)
		if e != api.OK {
			continue
		}
		read++
		if again := made(t, got); !bytes.Equal(again, b[:n]) {
			t.Fatalf("Make of what Read told of % x: % x", b[:n], again)
		}
	}
	if read < 10000 {
		t.Errorf("only %d of them are packets", read)
	}
}

func TestP165CutOff(t *testing.T) {
	for _, h := range append(many(165), greatest(false, 6), between(true, 17)) {
		b := made(t, h)
		for n := range b {
			fails(t, b[:n], api.ErrShort)
		}
	}
	for _, h := range headers() {
		b := made(t, h)
		for n := 0; n < len(b); n += 97 {
			fails(t, b[:n], api.ErrShort)
		}
	}
}

func TestP166OneBit(t *testing.T) {
	list := many(166)
	for _, v6 := range []bool{false, true} {
		for _, proto := range []uint8{0, 6, 17} {
			h := between(v6, proto)
			h.Data = data(maxData(h))
			list = append(list, h)
			if proto > 0 {
				list = append(list, withSum(h, 0), withSum(h, 1))
			}
		}
	}
	list = append(list, withFourSum())
	for _, h := range list {
		b := made(t, h)
		for i := range len(b) * 8 {
			b[i/8] ^= 128 >> (i % 8)
			got, _, e := packet.Read(b)
			if e == api.OK && packet.Same(got, h) {
				t.Fatalf("the bit %d of %v: the same header", i, h)
			}
			if e == api.OK && i/8 >= frontOf(h) && middleOf(h.Proto) > 0 {
				t.Fatalf("the bit %d of %v, behind the front: no error", i, h)
			}
			asSaid(t, b)
			b[i/8] ^= 128 >> (i % 8)
		}
	}
}
