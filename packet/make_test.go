package packet_test

import (
	"bytes"
	"math"
	"math/rand"
	"testing"

	"patchbay/api"
	"patchbay/packet"
)

// checks tells of a Check, and of a Make, that answers another error; and of a Make that answers bytes beside one.
func checks(t *testing.T, h api.Header, want api.Errno) {
	t.Helper()
	if e := packet.Check(h); e != want {
		t.Errorf("Check of %d bytes of Data, and %v: %v, not %v", len(h.Data), h, e, want)
	}
	if b, e := packet.Make(h); e != want || e != api.OK && b != nil {
		t.Errorf("Make of %d bytes of Data, and %v: %d bytes, %v, not %v", len(h.Data), h, len(b), e, want)
	}
}

func TestP161CheckOfWhatMayBe(t *testing.T) {
	for _, h := range headers() {
		checks(t, h, api.OK)
	}
	r := rand.New(rand.NewSource(161))
	for range 2000 {
		checks(t, drawn(r), api.OK)
	}
}

func TestP161CheckOfAddresses(t *testing.T) {
	for _, proto := range protos() {
		for i := 4; i < 16; i++ {
			for _, x := range []byte{1, 128, 255} {
				h := between(false, proto)
				h.Src.B[i] = x
				checks(t, h, api.ErrArg)
				h = between(false, proto)
				h.Dst.B[i] = x
				checks(t, h, api.ErrArg)
				h = between(true, proto)
				h.Src.B[i], h.Dst.B[i] = x, x
				checks(t, h, api.OK)
			}
		}
		for _, v6 := range []bool{false, true} {
			h := least(v6, proto)
			h.Src.V6 = !v6
			checks(t, h, api.ErrArg)
			h = least(v6, proto)
			h.Dst.V6 = !v6
			checks(t, h, api.ErrArg)
		}
	}
}

func TestP161CheckOfId(t *testing.T) {
	for _, proto := range protos() {
		for _, x := range []struct {
			v6   bool
			id   uint32
			want api.Errno
		}{
			{false, 0, api.OK}, {false, 65535, api.OK}, {false, 65536, api.ErrArg}, {false, 1<<20 - 1, api.ErrArg}, {false, math.MaxUint32, api.ErrArg},
			{true, 0, api.OK}, {true, 65536, api.OK}, {true, 1<<20 - 1, api.OK}, {true, 1 << 20, api.ErrArg}, {true, math.MaxUint32, api.ErrArg},
		} {
			h := least(x.v6, proto)
			h.Id = x.id
			checks(t, h, x.want)
		}
	}
}

func TestP161CheckOfPortsFlagsAndSeq(t *testing.T) {
	for _, v6 := range []bool{false, true} {
		for proto := range 256 {
			ports, rest := api.OK, api.OK
			if proto != 6 && proto != 17 {
				ports = api.ErrArg
			}
			if proto != 6 {
				rest = api.ErrArg
			}
			for _, x := range []struct {
				turn func(h *api.Header)
				want api.Errno
			}{
				{func(h *api.Header) {}, api.OK},
				{func(h *api.Header) { h.SrcPort = 1 }, ports},
				{func(h *api.Header) { h.SrcPort = 256 }, ports},
				{func(h *api.Header) { h.DstPort = 1 }, ports},
				{func(h *api.Header) { h.DstPort = 65535 }, ports},
				{func(h *api.Header) { h.Flags = 1 }, rest},
				{func(h *api.Header) { h.Flags = 128 }, rest},
				{func(h *api.Header) { h.Seq = 1 }, rest},
				{func(h *api.Header) { h.Seq = 1 << 31 }, rest},
			} {
				h := least(v6, uint8(proto))
				x.turn(&h)
				checks(t, h, x.want)
			}
		}
	}
}

func TestP161CheckOfLength(t *testing.T) {
	for _, v6 := range []bool{false, true} {
		for _, proto := range protos() {
			h := between(v6, proto)
			most := maxData(h)
			for _, n := range []int{0, most - 1, most} {
				h.Data = make([]byte, n)
				checks(t, h, api.OK)
			}
			for _, n := range []int{most + 1, 2048, 2049, 65535, 65536, 65536 + 1} {
				h.Data = make([]byte, n)
				checks(t, h, api.ErrLong)
				// What may not be is named first.
				wrong := h
				wrong.Id = math.MaxUint32
				checks(t, wrong, api.ErrArg)
			}
		}
	}
}

func TestP161MakeOfPacketsAsTheyAre(t *testing.T) {
	for _, x := range []struct {
		h    api.Header
		want string
	}{
		{plain(), "4500001d00004000401126ce0a0000010a000002000700350009ea9d01"},
		{
			api.Header{Src: four(192, 168, 0, 9), Dst: four(255, 255, 255, 255), Proto: 6, SrcPort: 65535, DstPort: 80, TTL: 255, Class: 0xb8, Id: 65535, Flags: 0x12, Seq: 0xfedcba98, Data: []byte("abc")},
			"45b8002bffff4000ff06ba63c0a80009ffffffff ffff0050fedcba98000000005012ffff70f60000 616263",
		},
		{
			api.Header{Src: four(127, 0, 0, 1), Proto: 1, TTL: 1, Class: 1, Id: 258, Data: []byte{8, 0, 255}},
			"45010017010240000101f9e27f00000100000000 0800ff",
		},
		{
			api.Header{Src: api.Addr{V6: true, B: [16]byte{0x20, 1, 0xd, 0xb8, 15: 1}}, Dst: api.Addr{V6: true, B: [16]byte{0x20, 1, 0xd, 0xb8, 15: 2}}, Proto: 17, SrcPort: 1024, DstPort: 53, TTL: 1, Class: 0xab, Id: 0x12345, Data: []byte{1, 2, 3, 4, 5}},
			"6ab12345000d1101 20010db8000000000000000000000001 20010db8000000000000000000000002 04000035000d9724 0102030405",
		},
		{
			api.Header{Src: six(0, 1), Dst: all(true), Proto: 6, SrcPort: 80, DstPort: 9, TTL: 3, Class: 255, Id: 1<<20 - 1, Flags: 2, Seq: 7},
			"6fffffff00140603 00000000000000000000000000000001 ffffffffffffffffffffffffffffffff 0050000900000007000000005002ffffaf820000",
		},
		{
			api.Header{Src: six(0xfe80, 1), Dst: six(0, 0), Proto: 58, TTL: 255, Data: []byte{128}},
			"6000000000013aff fe800000000000000000000000000001 00000000000000000000000000000000 80",
		},
	} {
		want := unhex(x.want)
		if b, e := packet.Make(x.h); e != api.OK || !bytes.Equal(b, want) {
			t.Errorf("Make(%v): % x, %v, not % x", x.h, b, e, want)
		}
		reads(t, want, x.h, len(want), api.OK)
	}
}

func TestP161MakeAsTheChapterSays(t *testing.T) {
	list := headers()
	r := rand.New(rand.NewSource(1610))
	for range 3000 {
		list = append(list, drawn(r))
	}
	for _, h := range list {
		if b, want := made(t, h), makeSays(h); !bytes.Equal(b, want) {
			t.Fatalf("Make(%v): % x, not % x", h, b, want)
		}
	}
}

// withSum answers the header with Data whose sum has that remainder by 65535: its first two bytes make up for what is missing.
func withSum(h api.Header, sum int) api.Header {
	h.Data = make([]byte, 2)
	rest := makeSays(h)[frontOf(h):]
	at := sumPlace(h) - frontOf(h)
	rest[at], rest[at+1] = 0, 0
	h.Data = put(nil, uint64((int(tcpUDPSumSays(h, rest))-sum+65535)%65535), 2)
	return h
}

func TestP161MakeOfASumThatIsNought(t *testing.T) {
	for _, v6 := range []bool{false, true} {
		for _, x := range []struct {
			proto uint8
			want  int
		}{{6, 0}, {17, 65535}} {
			for _, h := range []api.Header{least(v6, x.proto), greatest(v6, x.proto), between(v6, x.proto)} {
				h = withSum(h, 0)
				b := made(t, h)
				at := sumPlace(h)
				if got := value(b[at : at+2]); got != x.want {
					t.Errorf("the sum of the protocol %d: %d, not %d", x.proto, got, x.want)
				}
				reads(t, b, h, len(b), api.OK)
				// The other one of these two is a wrong one.
				b[at], b[at+1] = ^b[at], ^b[at+1]
				fails(t, b, api.ErrSum)
			}
			h := withSum(between(v6, x.proto), 1)
			b := made(t, h)
			if at := sumPlace(h); value(b[at:at+2]) != 1 {
				t.Errorf("the sum of the protocol %d: % x, not 1", x.proto, b[at:at+2])
			}
		}
	}
}

func TestP161MakeKeepsOffWhatIsHandedIn(t *testing.T) {
	for _, h := range short() {
		whole, part := fenced(h.Data)
		was := bytes.Clone(whole)
		h.Data = part
		b := made(t, h)
		if !bytes.Equal(whole, was) {
			t.Fatalf("Make wrote into Data, or behind it: % x", whole)
		}
		c := made(t, h)
		clear(b[:cap(b)])
		if !bytes.Equal(whole, was) || !bytes.Equal(c, makeSays(h)) {
			t.Fatal("what Make answers shares with what was handed in, or with another answer")
		}
		clear(whole)
		h.Data = was[:len(h.Data)]
		if !bytes.Equal(c, makeSays(h)) {
			t.Fatal("what was handed in is kept")
		}
	}
}
