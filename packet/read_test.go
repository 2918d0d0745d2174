package packet_test

import (
	"bytes"
	"fmt"
	"math/rand"
	"testing"

	"patchbay/api"
	"patchbay/packet"
)

// set answers the packet with other bytes from a place on.
func set(b []byte, at int, x ...byte) []byte {
	b = bytes.Clone(b)
	copy(b[at:], x)
	return b
}

// told answers the packet with another length in its front.
func told(h api.Header, b []byte, size int) []byte {
	if h.Src.V6 {
		return set(b, 4, put(nil, uint64(size-40), 2)...)
	}
	return set(b, 2, put(nil, uint64(size), 2)...)
}

func TestP162ReadOfNoPacket(t *testing.T) {
	fails(t, nil, api.ErrShort)
	fails(t, []byte{}, api.ErrShort)
	for x := range 256 {
		for _, n := range []int{1, 2, 19, 20, 39, 40, 2048, 4000} {
			b := make([]byte, n)
			b[0] = byte(x)
			want := api.ErrForm
			if x/16 == 4 && n < 20 || x/16 == 6 && n < 40 {
				want = api.ErrShort
			}
			if x/16 == 6 && n >= 40 {
				continue // of noughts behind it is one
			}
			fails(t, b, want)
			asSaid(t, b)
		}
	}
}

func TestP162ReadOfNoughtsOfIPv6(t *testing.T) {
	for x := 0x60; x < 0x70; x++ {
		for _, n := range []int{40, 41, 3000} {
			b := make([]byte, n)
			b[0] = byte(x)
			h := least(true, 0)
			h.Class = uint8(x) << 4
			reads(t, b, h, 40, api.OK)
		}
	}
}

func TestP162ReadOfIPv4sFirstBytes(t *testing.T) {
	for _, h := range short() {
		if h.Src.V6 {
			continue
		}
		b := made(t, h)
		for x := range 256 {
			if x != 0x45 {
				want := api.ErrForm
				if x/16 == 6 && len(b) < 40 {
					want = api.ErrShort
				}
				if x/16 == 6 && len(b) >= 40 {
					asSaid(t, withSums(h, set(b, 0, byte(x))))
					continue
				}
				fails(t, withSums(h, set(b, 0, byte(x))), want)
			}
			if x != 0x40 {
				fails(t, withSums(h, set(b, 6, byte(x))), api.ErrForm)
			}
			if x != 0 {
				fails(t, withSums(h, set(b, 7, byte(x))), api.ErrForm)
			}
		}
	}
}

func TestP162ReadOfLengths(t *testing.T) {
	for _, v6 := range []bool{false, true} {
		for _, proto := range protos() {
			h := between(v6, proto)
			front := frontOf(h)
			long := append(made(t, h), make([]byte, 70000)...)
			for size := range 65536 {
				if size > front+60 && size < 2000 || size > 2100 && size < 65500 {
					continue
				}
				if v6 && size < front {
					continue // the front tells what is behind it alone
				}
				b := withLength(h, long, size)
				want := api.OK
				switch {
				case size < front || size > 2048 || size < front+middleOf(proto):
					want = api.ErrForm
				case proto == 17 && size != front+8:
					// What UDP tells of itself is the same as ahead.
					want = api.ErrForm
				}
				if _, n, e := packet.Read(b); e != want || e == api.OK && n != size {
					t.Fatalf("Read of the protocol %d, and %d bytes: %d, %v, not %v", proto, size, n, e, want)
				}
			}
			if v6 {
				for _, behind := range []int{2009, 2048, 2049, 65535} {
					fails(t, withLength(h, long, 40+behind), api.ErrForm)
				}
			}
		}
	}
}

// withLength answers the packet with another length, and the sums of what it is then.
func withLength(h api.Header, b []byte, size int) []byte {
	b = told(h, b, size)
	if size < frontOf(h)+middleOf(h.Proto) || size > len(b) {
		h.Proto = 0
		return withSums(h, b)
	}
	return append(withSums(h, b[:size]), b[size:]...)
}

func TestP162ReadOfThatManyBytesAndOneLess(t *testing.T) {
	for _, h := range headers() {
		b := made(t, h)
		reads(t, b, h, len(b), api.OK)
		fails(t, b[:len(b)-1], api.ErrShort)
	}
	for _, v6 := range []bool{false, true} {
		for _, proto := range protos() {
			h := least(v6, proto)
			front := frontOf(h)
			// The length is looked at ahead of the room for the middle, and ahead of the sums.
			for size := front; size < front+30; size++ {
				b := told(h, make([]byte, size), size)
				copy(b, made(t, h)[:2])
				b[6], b[9] = 0x40, proto
				if v6 {
					b[6], b[9] = proto, 0
				}
				fails(t, b[:size-1], api.ErrShort)
				asSaid(t, b)
			}
		}
	}
}

func TestP162ReadOfIPv4sSum(t *testing.T) {
	for _, h := range []api.Header{plain(), least(false, 0), greatest(false, 6), between(false, 255)} {
		b := made(t, h)
		right := value(b[10:12])
		for sum := range 65536 {
			if sum != right {
				fails(t, set(b, 10, put(nil, uint64(sum), 2)...), api.ErrSum)
			}
		}
	}
}

// withFourSum answers a header of IPv4 whose front has the sum 0.
func withFourSum() api.Header {
	h := least(false, 0)
	sum := sumSays(makeSays(h)[:10])
	h.Id = uint32(sum)
	return h
}

func TestP162ReadOfIPv4sSumThatIsNought(t *testing.T) {
	h := withFourSum()
	b := made(t, h)
	if b[10] != 0 || b[11] != 0 {
		t.Fatalf("the sum: % x", b[10:12])
	}
	reads(t, b, h, len(b), api.OK)
	fails(t, set(b, 10, 255, 255), api.ErrSum)
}

func TestP162ReadOfNoRoomForTheMiddle(t *testing.T) {
	for _, v6 := range []bool{false, true} {
		for _, proto := range []uint8{6, 17} {
			h := between(v6, proto)
			b := made(t, h)
			for size := frontOf(h); size < len(b); size++ {
				fails(t, withLength(h, b, size), api.ErrForm)
				fails(t, withLength(h, b[:size], size), api.ErrForm)
			}
		}
	}
}

func TestP162ReadOfTCPsBytes(t *testing.T) {
	for _, h := range short() {
		if h.Proto != 6 {
			continue
		}
		b := made(t, h)
		for _, i := range []int{8, 9, 10, 11, 12, 14, 15, 18, 19} {
			at := frontOf(h) + i
			for x := range 256 {
				if byte(x) == b[at] {
					continue
				}
				// Be its sum the one that it was, or the one that it should be.
				fails(t, set(b, at, byte(x)), api.ErrForm)
				fails(t, withSums(h, set(b, at, byte(x))), api.ErrForm)
			}
		}
	}
}

func TestP162ReadOfUDPsLength(t *testing.T) {
	for _, h := range []api.Header{plain(), least(false, 17), greatest(true, 17), between(true, 17)} {
		for _, n := range []int{0, 1, 9} {
			h.Data = data(n)
			b := made(t, h)
			for size := range 65536 {
				if size == 8+n {
					continue
				}
				x := set(b, frontOf(h)+4, put(nil, uint64(size), 2)...)
				fails(t, x, api.ErrForm)
				if size < 300 || size > 65500 {
					fails(t, withSums(h, x), api.ErrForm)
				}
			}
		}
	}
}

func TestP162ReadOfTheSumOfTCPAndUDP(t *testing.T) {
	for _, v6 := range []bool{false, true} {
		for _, proto := range []uint8{6, 17} {
			for n := range 3 {
				h := between(v6, proto)
				h.Data = data(n)
				b := made(t, h)
				at := sumPlace(h)
				for sum := range 65536 {
					if sum != value(b[at:at+2]) {
						fails(t, set(b, at, put(nil, uint64(sum), 2)...), api.ErrSum)
					}
				}
			}
		}
	}
}

// TestP162ReadsFirstError holds all pairs of faults against the one that is named first.
func TestP162ReadsFirstError(t *testing.T) {
	b := wire()
	faults := []struct {
		name string
		turn func(b []byte) []byte
		want api.Errno
	}{
		{"no byte", func(b []byte) []byte { return nil }, api.ErrShort},
		{"no such version", func(b []byte) []byte { return set(b, 0, 0x35) }, api.ErrForm},
		{"shorter than the front", func(b []byte) []byte { return b[:min(len(b), 19)] }, api.ErrShort},
		{"not 40 00", func(b []byte) []byte { return set(b, 6, 0x20) }, api.ErrForm},
		{"longer than may be", func(b []byte) []byte { return set(b, 2, 8, 1) }, api.ErrForm},
		{"one less than told", func(b []byte) []byte { return b[:min(len(b), 28)] }, api.ErrShort},
		{"the front's sum", func(b []byte) []byte { return set(b, 12, 11) }, api.ErrSum},
		{"the length of UDP", func(b []byte) []byte { return set(b, 24, 1) }, api.ErrForm},
		{"the sum of UDP", func(b []byte) []byte { return set(b, 20, 1) }, api.ErrSum},
	}
	for i, x := range faults {
		fails(t, x.turn(b), x.want)
		for _, y := range faults[i:] {
			// The later one first, as long as there are bytes to turn.
			if c := y.turn(b); len(c) > 0 {
				t.Run(fmt.Sprint(x.name, ", ", y.name), func(t *testing.T) { fails(t, x.turn(c), x.want) })
			}
		}
	}
}

// TestP162ReadAsTheChapterSays tries all of some values of each of the bytes that Read asks about.
func TestP162ReadAsTheChapterSays(t *testing.T) {
	for _, proto := range []uint8{0, 6, 17} {
		h := between(false, proto)
		h.Data = data(3)
		b := append(made(t, h), 0, 0)
		size := len(b) - 2
		for _, first := range []byte{0x45, 0x46, 0x65, 0x05} {
			for _, flags := range [][]byte{{0x40, 0}, {0, 0}, {0x40, 1}} {
				for _, told := range []int{0, 19, 20, 27, 28, 39, 40, size - 1, size, size + 1, size + 2, size + 3, 2048, 2049, 65535} {
					x := set(set(set(b, 0, first), 6, flags...), 2, put(nil, uint64(told), 2)...)
					ofAllLengths(t, x)
					front := h
					front.Proto = 0
					ofAllLengths(t, withSums(front, x))
					ofAllLengths(t, withLength(h, x, told))
				}
			}
		}
	}
}

// ofAllLengths reads the bytes, and all that these begin with.
func ofAllLengths(t *testing.T, b []byte) {
	t.Helper()
	for n := range len(b) + 1 {
		asSaid(t, b[:n])
	}
}

func TestP162ReadOfDrawnBytes(t *testing.T) {
	r := rand.New(rand.NewSource(162))
	for range 20000 {
		h := drawn(r)
		b := made(t, h)
		for range r.Intn(3) {
			b[r.Intn(len(b))] = byte(r.Intn(256))
		}
		if r.Intn(2) == 0 {
			b = withSums(h, b)
		}
		b = append(b, make([]byte, r.Intn(3))...)
		asSaid(t, b[:r.Intn(len(b)+1)])
		asSaid(t, b)
	}
	for range 20000 {
		b := make([]byte, r.Intn(80))
		r.Read(b)
		if len(b) > 0 && r.Intn(4) > 0 {
			b[0] = []byte{0x45, 0x60}[r.Intn(2)]
		}
		asSaid(t, b)
	}
}

func TestP162ReadKeepsOffWhatIsHandedIn(t *testing.T) {
	for _, h := range short() {
		whole, part := fenced(made(t, h))
		was := bytes.Clone(whole)
		got, _, e := packet.Read(part)
		again, _, _ := packet.Read(part)
		if e != api.OK || !bytes.Equal(whole, was) {
			t.Fatalf("Read wrote into what it was handed: %v", e)
		}
		clear(got.Data[:cap(got.Data)])
		if !bytes.Equal(whole, was) || !sameSays(again, h) {
			t.Fatal("what Read answers shares with what was handed in, or with another answer")
		}
		clear(whole)
		if !sameSays(again, h) {
			t.Fatal("what was handed in is kept")
		}
	}
}

func TestP162Examples(t *testing.T) {
	b := wire()
	reads(t, b, plain(), 29, api.OK)
	reads(t, append(b, 0x99), plain(), 29, api.OK)
	fails(t, b[:28], api.ErrShort)
	fails(t, set(b, 28, 2), api.ErrSum)
	fails(t, []byte{0}, api.ErrForm)
	fails(t, []byte{0x45}, api.ErrShort)
	fails(t, append([]byte{0x46}, make([]byte, 19)...), api.ErrForm)
	reads(t, append([]byte{0x60}, make([]byte, 39)...), least(true, 0), 40, api.OK)
}
