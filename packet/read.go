package packet

import (
	"bytes"

	"patchbay/api"
	"patchbay/octets"
)

// Read answers the header whose packet b begins with, and how many bytes that packet has.
func Read(b []byte) (api.Header, int, api.Errno) {
	h, size, e := readFront(b)
	if e == api.OK {
		h, e = readRest(h, b[frontSize(h):size])
	}
	if e != api.OK {
		return api.Header{}, 0, e
	}
	return h, size, api.OK
}

// readFront answers what the front tells, and how many bytes the packet has.
func readFront(b []byte) (api.Header, int, api.Errno) {
	if len(b) == 0 {
		return api.Header{}, 0, api.ErrShort
	}
	switch b[0] >> 4 {
	case 4:
		return readFour(b)
	case 6:
		return readSix(b)
	}
	return api.Header{}, 0, api.ErrForm
}

func readFour(b []byte) (api.Header, int, api.Errno) {
	if len(b) < fourFront {
		return api.Header{}, 0, api.ErrShort
	}
	if b[0] != 0x45 || number(b, 6) != 0x4000 {
		return api.Header{}, 0, api.ErrForm
	}
	size := int(number(b, 2))
	if e := checkSize(b, size, fourFront); e != api.OK {
		return api.Header{}, 0, e
	}
	if number(b, fourSumAt) != octets.Sum(b[:fourSumAt], b[fourSumAt+2:fourFront]) {
		return api.Header{}, 0, api.ErrSum
	}
	return api.Header{
		Src:   addrOfFour(b[12:16]),
		Dst:   addrOfFour(b[16:20]),
		Proto: b[9],
		TTL:   b[8],
		Class: b[1],
		Id:    uint32(number(b, 4)),
	}, size, api.OK
}

func readSix(b []byte) (api.Header, int, api.Errno) {
	if len(b) < sixFront {
		return api.Header{}, 0, api.ErrShort
	}
	size := sixFront + int(number(b, 4))
	if e := checkSize(b, size, sixFront); e != api.OK {
		return api.Header{}, 0, e
	}
	word, _ := octets.Take[uint32](b, 0)
	return api.Header{
		Src:   addrOfSix(b[8:24]),
		Dst:   addrOfSix(b[24:40]),
		Proto: b[6],
		TTL:   b[7],
		Class: uint8(word >> 20),
		Id:    word & maxSixId,
	}, size, api.OK
}

// checkSize answers whether b may begin with a packet of that size.
func checkSize(b []byte, size, front int) api.Errno {
	if size < front || size > api.MaxPacket {
		return api.ErrForm
	}
	if len(b) < size {
		return api.ErrShort
	}
	return api.OK
}

func addrOfFour(b []byte) api.Addr {
	four := [fourBytes]byte(b)
	var a api.Addr
	copy(a.B[:], four[:])
	return a
}

func addrOfSix(b []byte) api.Addr {
	return api.Addr{V6: true, B: [sixBytes]byte(b)}
}

// readRest answers the front's header with what middle and Data tell.
func readRest(h api.Header, rest []byte) (api.Header, api.Errno) {
	size, at := middleSize(h.Proto), sumAt(h.Proto)
	if len(rest) < size {
		return api.Header{}, api.ErrForm
	}
	h.Data = bytes.Clone(rest[size:])
	if size == 0 {
		return h, api.OK
	}
	h.SrcPort, h.DstPort = number(rest, 0), number(rest, 2)
	if h.Proto == api.ProtoTCP {
		h.Seq, _ = octets.Take[uint32](rest, 4)
		h.Flags = rest[13]
	}
	// All other bytes, but the sum's, are what they are in any middle of that header.
	if made := middle(h); !bytes.Equal(rest[:at], made[:at]) || !bytes.Equal(rest[at+2:size], made[at+2:]) {
		return api.Header{}, api.ErrForm
	}
	if number(rest, at) != sumOf(h, rest) {
		return api.Header{}, api.ErrSum
	}
	return h, api.OK
}

// number answers the number of two bytes at a place where two stand.
func number(b []byte, at int) uint16 {
	v, _ := octets.Take[uint16](b, at)
	return v
}
