package flow_test

import (
	"bytes"
	"hash/fnv"
	"math/rand"
	"testing"

	"patchbay/api"
	"patchbay/flow"
)

// size is how many bytes a key has.
const size = 39

// Where the bytes of a key stand that tell an address's kind.
const (
	srcKindAt = 0
	dstKindAt = 17
)

// four answers an address of IPv4.
func four(a, b, c, d byte) api.Addr { return api.Addr{B: [16]byte{a, b, c, d}} }

// six answers an address of IPv6 that begins and ends so; all between is 0.
func six(first, last uint16) api.Addr {
	return api.Addr{V6: true, B: [16]byte{byte(first >> 8), byte(first), 14: byte(last >> 8), byte(last)}}
}

// full answers an address whose bytes are all 255.
func full(v6 bool) api.Addr {
	return api.Addr{V6: v6, B: [16]byte(bytes.Repeat([]byte{255}, 16))}
}

// plain answers the key K of the chapter's examples.
func plain() api.Key {
	return api.Key{Src: four(10, 0, 0, 1), Dst: four(10, 0, 0, 2), Proto: api.ProtoUDP, SrcPort: 53, DstPort: 1024}
}

// wide answers a key of IPv6, all whose fields differ.
func wide() api.Key {
	return api.Key{Src: six(0x2001, 5), Dst: six(0xfe80, 0x1234), Proto: api.ProtoTCP, SrcPort: 0x0102, DstPort: 0xf00d}
}

// greatest answers the key with the greatest bytes that there are: no packet has it.
func greatest() api.Key {
	return api.Key{Src: full(true), Dst: full(true), Proto: 255, SrcPort: 65535, DstPort: 65535}
}

// strange are keys that no packet has: addresses that may not be, or are of two kinds; ports where there are none.
func strange() []api.Key {
	mixed, fourFull, noPorts, back := wide(), plain(), plain(), wide()
	mixed.Src = four(10, 0, 0, 1)
	fourFull.Src, fourFull.Dst = full(false), four(10, 0, 0, 2)
	fourFull.Dst.B[4] = 1
	noPorts.Proto = 1
	back.Proto, back.Dst.V6 = 0, false
	return []api.Key{greatest(), mixed, fourFull, noPorts, back}
}

// bytesSays answers a key's bytes, as the chapter says it.
func bytesSays(k api.Key) []byte {
	b := make([]byte, size)
	for i := range 16 {
		b[srcKindAt+1+i], b[dstKindAt+1+i] = k.Src.B[i], k.Dst.B[i]
	}
	if k.Src.V6 {
		b[srcKindAt] = 1
	}
	if k.Dst.V6 {
		b[dstKindAt] = 1
	}
	b[34] = k.Proto
	b[35], b[36] = byte(k.SrcPort/256), byte(k.SrcPort%256)
	b[37], b[38] = byte(k.DstPort/256), byte(k.DstPort%256)
	return b
}

// keySays answers the key whose bytes these are.
func keySays(b []byte) api.Key {
	return api.Key{
		Src:     api.Addr{V6: b[srcKindAt] == 1, B: [16]byte(b[srcKindAt+1:])},
		Dst:     api.Addr{V6: b[dstKindAt] == 1, B: [16]byte(b[dstKindAt+1:])},
		Proto:   b[34],
		SrcPort: uint16(b[35])*256 + uint16(b[36]),
		DstPort: uint16(b[37])*256 + uint16(b[38]),
	}
}

// with answers the key with another byte at the place.
func with(k api.Key, place int, x byte) api.Key {
	b := bytesSays(k)
	b[place] = x
	return keySays(b)
}

// at answers the byte at the place.
func at(k api.Key, place int) byte { return bytesSays(k)[place] }

// others answers some bytes that a key may have at the place and does not have there: the least and the greatest, those about its own, and those with one bit turned.
func others(k api.Key, place int) []byte {
	own := at(k, place)
	if place == srcKindAt || place == dstKindAt {
		return []byte{1 - own}
	}
	list := []byte{0, 255, own - 1, own + 1}
	for bit := range 8 {
		list = append(list, own^1<<bit)
	}
	return bytes.ReplaceAll(list, []byte{own}, nil)
}

// hashSays answers the hash of a key's bytes by the library.
func hashSays(k api.Key) uint64 {
	h := fnv.New64a()
	h.Write(bytesSays(k))
	return h.Sum64()
}

// compareSays answers Compare as the chapter says it.
func compareSays(a, b api.Key) int {
	for i := range size {
		if at(a, i) < at(b, i) {
			return -1
		}
		if at(a, i) > at(b, i) {
			return 1
		}
	}
	return 0
}

// fields are the names of a key's fields, and a key that differs from k in that one alone.
func fields(k api.Key) map[string]api.Key {
	list := map[string]api.Key{}
	for name, place := range map[string]int{"Src.V6": srcKindAt, "Src.B": 4, "Dst.V6": dstKindAt, "Dst.B": 33, "Proto": 34, "SrcPort": 36, "DstPort": 37} {
		list[name] = with(k, place, others(k, place)[0])
	}
	return list
}

// keys are the least, the greatest, and ordinary ones, those that no packet has, their ways back, and what differs from them in one byte alone.
func keys() []api.Key {
	from := append(strange(), api.Key{}, plain(), wide())
	var list []api.Key
	for _, k := range from {
		list = append(list, k, api.Key{Src: k.Dst, Dst: k.Src, Proto: k.Proto, SrcPort: k.DstPort, DstPort: k.SrcPort})
		for place := range size {
			for _, x := range others(k, place) {
				list = append(list, with(k, place, x))
			}
		}
	}
	return list
}

// few are some of them, of which all triples can be gone through.
func few() []api.Key {
	list := append(strange(), api.Key{}, plain(), wide())
	for _, k := range []api.Key{{}, plain(), greatest()} {
		for place := range size {
			list = append(list, with(k, place, others(k, place)[0]))
		}
	}
	return list
}

// drawn answers a key, whatever it be.
func drawn(r *rand.Rand) api.Key {
	b := make([]byte, size)
	r.Read(b)
	b[srcKindAt] %= 2
	b[dstKindAt] %= 2
	return keySays(b)
}

// header answers a header with the key's fields, also where a packet has none; all else is drawn.
func header(r *rand.Rand, k api.Key) api.Header {
	h := api.Header{Src: k.Src, Dst: k.Dst, Proto: k.Proto, SrcPort: k.SrcPort, DstPort: k.DstPort}
	h.TTL, h.Class, h.Id = uint8(r.Uint32()), uint8(r.Uint32()), r.Uint32()
	h.Flags, h.Seq = uint8(r.Uint32()), r.Uint32()
	h.Data = make([]byte, r.Intn(9))
	r.Read(h.Data)
	return h
}

// is tells of a Bytes, and of a Hash, that answers anything but what the chapter says.
func is(t *testing.T, k api.Key) {
	t.Helper()
	if b := flow.Bytes(k); !bytes.Equal(b, bytesSays(k)) {
		t.Fatalf("Bytes(%v): % x, not % x", k, b, bytesSays(k))
	}
	if h := flow.Hash(k); h != hashSays(k) {
		t.Fatalf("Hash(%v): %d, not %d", k, h, hashSays(k))
	}
}

// lanes tells of a Lane that does not answer that.
func lanes(t *testing.T, k api.Key, n, want int, e api.Errno) {
	t.Helper()
	if got, gotE := flow.Lane(k, n); got != want || gotE != e {
		t.Fatalf("Lane(%v, %d): %d, %v; not %d, %v", k, n, got, gotE, want, e)
	}
}

// parts tells of a Part that does not answer that.
func parts(t *testing.T, k api.Key, of, want uint64, e api.Errno) {
	t.Helper()
	if got, gotE := flow.Part(k, of); got != want || gotE != e {
		t.Fatalf("Part(%v, %d): %d, %v; not %d, %v", k, of, got, gotE, want, e)
	}
}

// compares tells of a Compare that does not answer that, and of one that is not the other way round.
func compares(t *testing.T, a, b api.Key, want int) {
	t.Helper()
	if got := flow.Compare(a, b); got != want {
		t.Fatalf("Compare(%v, %v): %d, not %d", a, b, got, want)
	}
	if got := flow.Compare(b, a); got != -want {
		t.Fatalf("Compare(%v, %v): %d, not %d", b, a, got, -want)
	}
}
