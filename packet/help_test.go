package packet_test

import (
	"bytes"
	"encoding/hex"
	"math"
	"math/rand"
	"strings"
	"testing"

	"patchbay/api"
	"patchbay/packet"
)

// four answers an address of IPv4.
func four(a, b, c, d byte) api.Addr { return api.Addr{B: [16]byte{a, b, c, d}} }

// six answers an address of IPv6 that begins and ends so; all between is 0.
func six(first, last uint16) api.Addr {
	return api.Addr{V6: true, B: [16]byte{byte(first >> 8), byte(first), 14: byte(last >> 8), byte(last)}}
}

// all answers the greatest address of a kind.
func all(v6 bool) api.Addr {
	a := four(255, 255, 255, 255)
	if v6 {
		a = api.Addr{V6: true, B: [16]byte(bytes.Repeat([]byte{255}, 16))}
	}
	return a
}

// plain answers the header of the chapter's examples.
func plain() api.Header {
	return api.Header{Src: four(10, 0, 0, 1), Dst: four(10, 0, 0, 2), Proto: api.ProtoUDP, SrcPort: 7, DstPort: 53, TTL: 64, Data: []byte{1}}
}

// wire answers its packet.
func wire() []byte {
	return unhex("45 00 00 1d 00 00 40 00 40 11 26 ce 0a 00 00 01 0a 00 00 02 00 07 00 35 00 09 ea 9d 01")
}

// unhex answers the bytes of a text to the base 16.
func unhex(s string) []byte {
	b, err := hex.DecodeString(strings.ReplaceAll(s, " ", ""))
	if err != nil {
		panic(err)
	}
	return b
}

// frontOf and middleOf answer how many bytes these have.
func frontOf(h api.Header) int {
	if h.Src.V6 {
		return 40
	}
	return 20
}

func middleOf(proto uint8) int { return map[uint8]int{6: 20, 17: 8}[proto] }

// maxData answers how many bytes of Data the longest packet has.
func maxData(h api.Header) int { return 2048 - frontOf(h) - middleOf(h.Proto) }

// put answers b, and behind it n bytes of a number, the highest first.
func put(b []byte, v uint64, n int) []byte {
	b = bytes.Clone(b)
	for i := n - 1; i >= 0; i-- {
		b = append(b, byte(v>>(8*i)))
	}
	return b
}

// value answers the number of the bytes.
func value(b []byte) int {
	v := 0
	for _, x := range b {
		v = v*256 + int(x)
	}
	return v
}

// sumSays answers the sum of bytes as chapter 1 says it, number by number.
func sumSays(b []byte) uint16 {
	if len(b)%2 == 1 {
		b = append(bytes.Clone(b), 0)
	}
	total := 0
	for i := 0; i < len(b); i += 2 {
		total += value(b[i : i+2])
	}
	for total > 65535 {
		total = total%65536 + total/65536
	}
	return uint16(65535 - total)
}

// tcpUDPSumSays answers the sum of middle and Data, in which 00 00 stands in the sum's place, as the chapter says it.
func tcpUDPSumSays(h api.Header, rest []byte) uint16 {
	var b []byte
	if h.Src.V6 {
		b = append(b, h.Src.B[:]...)
		b = append(b, h.Dst.B[:]...)
		b = put(b, uint64(len(rest)), 4)
		b = append(b, 0, 0, 0, h.Proto)
	} else {
		b = append(b, h.Src.B[:4]...)
		b = append(b, h.Dst.B[:4]...)
		b = append(b, 0, h.Proto)
		b = put(b, uint64(len(rest)), 2)
	}
	sum := sumSays(append(b, rest...))
	if h.Proto == 17 && sum == 0 {
		sum = 65535
	}
	return sum
}

// sumPlace answers where in the packet the sum of TCP or UDP stands.
func sumPlace(h api.Header) int { return frontOf(h) + map[uint8]int{6: 16, 17: 6}[h.Proto] }

// makeSays answers the packet of a header that may be, as the chapter says it.
func makeSays(h api.Header) []byte {
	var rest []byte
	switch h.Proto {
	case 6:
		rest = put(put(put(nil, uint64(h.SrcPort), 2), uint64(h.DstPort), 2), uint64(h.Seq), 4)
		rest = append(rest, 0, 0, 0, 0, 0x50, h.Flags, 0xff, 0xff, 0, 0, 0, 0)
	case 17:
		rest = put(put(nil, uint64(h.SrcPort), 2), uint64(h.DstPort), 2)
		rest = put(put(rest, uint64(8+len(h.Data)), 2), 0, 2)
	}
	rest = append(rest, h.Data...)
	var front []byte
	if h.Src.V6 {
		front = put(nil, 6<<28+uint64(h.Class)<<20+uint64(h.Id), 4)
		front = append(put(front, uint64(len(rest)), 2), h.Proto, h.TTL)
		front = append(append(front, h.Src.B[:]...), h.Dst.B[:]...)
	} else {
		front = put(put([]byte{0x45, h.Class}, uint64(20+len(rest)), 2), uint64(h.Id), 2)
		front = append(front, 0x40, 0, h.TTL, h.Proto, 0, 0)
		front = append(append(front, h.Src.B[:4]...), h.Dst.B[:4]...)
	}
	b := append(front, rest...)
	return withSums(h, b)
}

// withSums answers a packet's bytes with the sums that they ask for, whatever else is wrong with them.
func withSums(h api.Header, b []byte) []byte {
	b = bytes.Clone(b)
	if !h.Src.V6 {
		b[10], b[11] = 0, 0
		copy(b[10:], put(nil, uint64(sumSays(b[:20])), 2))
	}
	if middleOf(h.Proto) > 0 {
		at := sumPlace(h)
		b[at], b[at+1] = 0, 0
		copy(b[at:], put(nil, uint64(tcpUDPSumSays(h, b[frontOf(h):])), 2))
	}
	return b
}

// frontSays answers what the first four of Read's steps say: what the front tells, how long the packet is, what is wrong.
func frontSays(b []byte) (api.Header, int, api.Errno) {
	none := api.Header{}
	if len(b) == 0 {
		return none, 0, api.ErrShort
	}
	v6 := b[0]/16 == 6
	if b[0]/16 != 4 && !v6 {
		return none, 0, api.ErrForm
	}
	h := api.Header{Src: api.Addr{V6: v6}, Dst: api.Addr{V6: v6}}
	front := frontOf(h)
	if len(b) < front {
		return none, 0, api.ErrShort
	}
	if !v6 && (b[0] != 0x45 || b[6] != 0x40 || b[7] != 0) {
		return none, 0, api.ErrForm
	}
	size := value(b[2:4])
	if v6 {
		size = 40 + value(b[4:6])
	}
	if size < front || size > 2048 {
		return none, 0, api.ErrForm
	}
	if len(b) < size {
		return none, 0, api.ErrShort
	}
	if v6 {
		h.Class, h.Id, h.Proto, h.TTL = uint8(value(b[:2])/16%256), uint32(value(b[1:4])%(1<<20)), b[6], b[7]
		copy(h.Src.B[:], b[8:24])
		copy(h.Dst.B[:], b[24:40])
		return h, size, api.OK
	}
	bare := bytes.Clone(b[:20])
	bare[10], bare[11] = 0, 0
	if int(sumSays(bare)) != value(b[10:12]) {
		return none, 0, api.ErrSum
	}
	h.Class, h.Id, h.TTL, h.Proto = b[1], uint32(value(b[4:6])), b[8], b[9]
	copy(h.Src.B[:], b[12:16])
	copy(h.Dst.B[:], b[16:20])
	return h, size, api.OK
}

// readSays answers Read as the chapter says it.
func readSays(b []byte) (api.Header, int, api.Errno) {
	none := api.Header{}
	h, size, e := frontSays(b)
	if e != api.OK {
		return none, 0, e
	}
	rest, n := bytes.Clone(b[frontOf(h):size]), middleOf(h.Proto)
	h.Data = rest
	if n == 0 {
		return h, size, api.OK
	}
	if len(rest) < n {
		return none, 0, api.ErrForm
	}
	if h.Proto == 6 && (value(rest[8:12]) != 0 || rest[12] != 0x50 || value(rest[14:16]) != 0xffff || value(rest[18:20]) != 0) {
		return none, 0, api.ErrForm
	}
	if h.Proto == 17 && value(rest[4:6]) != len(rest) {
		return none, 0, api.ErrForm
	}
	at := sumPlace(h) - frontOf(h)
	told := value(rest[at : at+2])
	rest[at], rest[at+1] = 0, 0
	if told != int(tcpUDPSumSays(h, rest)) {
		return none, 0, api.ErrSum
	}
	h.SrcPort, h.DstPort, h.Data = uint16(value(rest[:2])), uint16(value(rest[2:4])), rest[n:]
	if h.Proto == 6 {
		h.Seq, h.Flags = uint32(value(rest[4:8])), rest[13]
	}
	return h, size, api.OK
}

// sameSays tells whether all fields are the same, as the chapter says it.
func sameSays(a, b api.Header) bool {
	if len(a.Data) != len(b.Data) {
		return false
	}
	for i := range a.Data {
		if a.Data[i] != b.Data[i] {
			return false
		}
	}
	return a.Src == b.Src && a.Dst == b.Dst && a.Proto == b.Proto && a.SrcPort == b.SrcPort && a.DstPort == b.DstPort &&
		a.TTL == b.TTL && a.Class == b.Class && a.Id == b.Id && a.Flags == b.Flags && a.Seq == b.Seq
}

// protos are those that are known, those about them, and the least and the greatest one.
func protos() []uint8 { return []uint8{0, 1, 5, 6, 7, 16, 17, 18, 58, 255} }

// least, greatest and between answer a header of a kind and of a protocol whose fields are so, without Data.
func least(v6 bool, proto uint8) api.Header {
	return api.Header{Src: api.Addr{V6: v6}, Dst: api.Addr{V6: v6}, Proto: proto}
}

func greatest(v6 bool, proto uint8) api.Header {
	h := api.Header{Src: all(v6), Dst: all(v6), Proto: proto, TTL: 255, Class: 255, Id: 65535}
	if v6 {
		h.Id = 1<<20 - 1
	}
	if proto == 6 || proto == 17 {
		h.SrcPort, h.DstPort = 65535, 65535
	}
	if proto == 6 {
		h.Flags, h.Seq = 255, math.MaxUint32
	}
	return h
}

func between(v6 bool, proto uint8) api.Header {
	h := greatest(v6, proto)
	h.Src, h.Dst = four(1, 2, 3, 4), four(250, 0, 129, 7)
	if v6 {
		h.Src, h.Dst, h.Id = six(0x2001, 5), six(0xfe80, 0x1234), 0xa1b2c
	}
	h.TTL, h.Class, h.Id = 0x12, 0x5a, h.Id&0xf9f0c
	h.SrcPort, h.DstPort = h.SrcPort&0x0102, h.DstPort&0xf00d
	h.Flags, h.Seq = h.Flags&0x29, h.Seq&0x89abcdef
	return h
}

// data answers n bytes, no two of them side by side the same.
func data(n int) []byte {
	b := make([]byte, n)
	for i := range b {
		b[i] = byte(i*7 + i/256 + 3)
	}
	return b
}

// headers are some that may be, of both kinds and of all protos, with little Data and with much.
func headers() []api.Header {
	var list []api.Header
	for _, v6 := range []bool{false, true} {
		for _, proto := range protos() {
			for _, h := range []api.Header{least(v6, proto), greatest(v6, proto), between(v6, proto)} {
				for _, n := range []int{0, 1, 2, 3, 30, maxData(h) - 1, maxData(h)} {
					h.Data = data(n)
					list = append(list, h)
				}
			}
		}
	}
	return list
}

// short are those of them with little Data.
func short() []api.Header {
	var list []api.Header
	for _, h := range headers() {
		if len(h.Data) <= 30 {
			list = append(list, h)
		}
	}
	return list
}

// drawn answers a header that may be.
func drawn(r *rand.Rand) api.Header {
	h := api.Header{TTL: uint8(r.Intn(256)), Class: uint8(r.Intn(256)), Id: uint32(r.Intn(1 << 16)), Proto: uint8(r.Intn(256))}
	r.Read(h.Src.B[:4])
	r.Read(h.Dst.B[:4])
	if r.Intn(2) == 0 {
		h.Id = uint32(r.Intn(1 << 20))
		h.Src.V6, h.Dst.V6 = true, true
		r.Read(h.Src.B[:])
		r.Read(h.Dst.B[:])
	}
	switch r.Intn(3) {
	case 0:
		h.Proto, h.Flags, h.Seq = 6, uint8(r.Intn(256)), r.Uint32()
	case 1:
		h.Proto = 17
	}
	if h.Proto == 6 || h.Proto == 17 {
		h.SrcPort, h.DstPort = uint16(r.Intn(65536)), uint16(r.Intn(65536))
	}
	h.Data = make([]byte, r.Intn(40))
	r.Read(h.Data)
	return h
}

// made answers the header's packet.
func made(t *testing.T, h api.Header) []byte {
	t.Helper()
	b, e := packet.Make(h)
	if e != api.OK {
		t.Fatalf("Make(%v): %v", h, e)
	}
	return b
}

// reads tells of a Read that does not answer that.
func reads(t *testing.T, b []byte, h api.Header, n int, e api.Errno) {
	t.Helper()
	gotH, gotN, gotE := packet.Read(b)
	if !sameSays(gotH, h) || gotN != n || gotE != e {
		t.Fatalf("Read(% x): %v, %d, %v; not %v, %d, %v", b, gotH, gotN, gotE, h, n, e)
	}
	if e != api.OK && gotH.Data != nil {
		t.Fatalf("Read(% x): Data beside an error", b)
	}
}

// fails tells of a Read that answers anything but that error.
func fails(t *testing.T, b []byte, e api.Errno) {
	t.Helper()
	reads(t, b, api.Header{}, 0, e)
}

// asSaid tells of a Read that answers anything but what the chapter says.
func asSaid(t *testing.T, b []byte) {
	t.Helper()
	h, n, e := readSays(b)
	reads(t, b, h, n, e)
}

// fenced answers b with room behind it, which tells of one who wrote there.
func fenced(b []byte) (whole, part []byte) {
	whole = append(bytes.Clone(b), bytes.Repeat([]byte{0xa5}, 64)...)
	return whole, whole[:len(b)]
}
