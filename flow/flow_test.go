package flow_test

import (
	"bytes"
	"encoding/hex"
	"math"
	"math/rand"
	"strings"
	"testing"

	"patchbay/api"
	"patchbay/flow"
)

func TestP171Of(t *testing.T) {
	h := api.Header{Src: four(10, 0, 0, 1), Dst: four(10, 0, 0, 2), Proto: 17, SrcPort: 53, DstPort: 1024}
	if got := flow.Of(h); got != plain() {
		t.Errorf("Of of K's header: %v", got)
	}
	h.Proto = 1
	if got, want := flow.Of(h), (api.Key{Src: four(10, 0, 0, 1), Dst: four(10, 0, 0, 2), Proto: 1}); got != want {
		t.Errorf("Of of that with ICMP: %v, not %v", got, want)
	}
	if got := flow.Of(api.Header{}); got != (api.Key{}) {
		t.Errorf("Of of the least header: %v", got)
	}
}

func TestP171OfOfEachProto(t *testing.T) {
	r := rand.New(rand.NewSource(1711))
	for proto := range 256 {
		for _, port := range []uint16{0, 1, 255, 256, 65534, 65535} {
			k := wide()
			k.Proto, k.SrcPort, k.DstPort = uint8(proto), port, 65535-port
			h := header(r, k)
			if proto != 6 && proto != 17 {
				k.SrcPort, k.DstPort = 0, 0
			}
			if got := flow.Of(h); got != k {
				t.Fatalf("Of(%v): %v, not %v", h, got, k)
			}
		}
	}
}

func TestP171OfOfAnyHeader(t *testing.T) {
	r := rand.New(rand.NewSource(1712))
	for _, k := range keys() {
		h := header(r, k)
		if k.Proto != 6 && k.Proto != 17 {
			k.SrcPort, k.DstPort = 0, 0
		}
		if got := flow.Of(h); got != k {
			t.Fatalf("Of(%v): %v, not %v", h, got, k)
		}
	}
}

func TestP171OfChangesNothing(t *testing.T) {
	data := []byte{1, 2, 3, 4}
	h := api.Header{Src: six(1, 2), Dst: six(3, 4), Proto: 6, SrcPort: 5, DstPort: 6, Data: data[:2]}
	flow.Of(h)
	if !bytes.Equal(data, []byte{1, 2, 3, 4}) {
		t.Errorf("Of changed what was handed in: % x", data)
	}
}

func TestP171Back(t *testing.T) {
	want := api.Key{Src: four(10, 0, 0, 2), Dst: four(10, 0, 0, 1), Proto: 17, SrcPort: 1024, DstPort: 53}
	if got := flow.Back(plain()); got != want {
		t.Errorf("Back(K): %v, not %v", got, want)
	}
	r := rand.New(rand.NewSource(1713))
	list := keys()
	for range 500 {
		list = append(list, drawn(r))
	}
	for _, k := range list {
		got := flow.Back(k)
		if got.Src != k.Dst || got.Dst != k.Src || got.Proto != k.Proto || got.SrcPort != k.DstPort || got.DstPort != k.SrcPort {
			t.Fatalf("Back(%v): %v", k, got)
		}
	}
}

// told are keys, their bytes as the chapter's words make them, and the hashes of these, worked out apart from this program.
func told() map[api.Key]struct {
	bytes string
	hash  uint64
} {
	nought, ff := strings.Repeat("00", 12), strings.Repeat("ff", 16)
	return map[api.Key]struct {
		bytes string
		hash  uint64
	}{
		plain():            {"00" + "0a000001" + nought + "00" + "0a000002" + nought + "11" + "0035" + "0400", 16629527663874247406},
		flow.Back(plain()): {"00" + "0a000002" + nought + "00" + "0a000001" + nought + "11" + "0400" + "0035", 15362007064231336692},
		{}:                 {strings.Repeat("00", size), 4701856666363133479},
		greatest():         {"01" + ff + "01" + ff + "ff" + "ffff" + "ffff", 10353944200356501364},
		wide():             {"01" + "2001" + nought + "0005" + "01" + "fe80" + nought + "1234" + "06" + "0102" + "f00d", 15002517423848726775},
	}
}

func TestP171BytesAndHash(t *testing.T) {
	for k, x := range told() {
		if got := hex.EncodeToString(flow.Bytes(k)); got != x.bytes {
			t.Errorf("Bytes(%v): %s, not %s", k, got, x.bytes)
		}
		if got := flow.Hash(k); got != x.hash {
			t.Errorf("Hash(%v): %d, not %d", k, got, x.hash)
		}
	}
	for _, k := range keys() {
		is(t, k)
	}
	r := rand.New(rand.NewSource(1714))
	for range 2000 {
		is(t, drawn(r))
	}
}

func TestP171BytesOfEachValue(t *testing.T) {
	for x := range 256 {
		for _, place := range []int{1, 16, 18, 33, 34, 35, 36, 37, 38} {
			is(t, with(plain(), place, byte(x)))
			is(t, with(wide(), place, byte(x)))
		}
	}
}

func TestP171BytesAreNewMemory(t *testing.T) {
	for _, k := range []api.Key{{}, plain(), wide(), greatest()} {
		a, b := flow.Bytes(k), flow.Bytes(k)
		// With the room behind it, which may not be anybody else's.
		for i := range a[:cap(a)] {
			a[:cap(a)][i] ^= 0xff
		}
		if c := flow.Bytes(k); !bytes.Equal(b, bytesSays(k)) || !bytes.Equal(c, b) {
			t.Errorf("Bytes(%v) share with those answered ahead: % x, % x", k, b, c)
		}
		is(t, k)
	}
}

func TestP172Lane(t *testing.T) {
	for n, want := range []int{1: 0, 2: 0, 3: 2, 4: 2, 5: 1, 6: 2, 7: 4, 8: 6, 9: 5, 10: 6, 11: 9, 12: 2, 13: 11, 14: 4, 15: 11, 16: 14} {
		if n > 0 {
			lanes(t, plain(), n, want, api.OK)
		}
	}
	r := rand.New(rand.NewSource(1721))
	list := keys()
	for range 2000 {
		list = append(list, drawn(r))
	}
	for _, k := range list {
		for n := 1; n <= 16; n++ {
			lanes(t, k, n, int(hashSays(k)%uint64(n)), api.OK)
		}
	}
}

func TestP172LaneOfNoLanesAndOfTooMany(t *testing.T) {
	for _, k := range append(few(), keys()[:50]...) {
		for _, n := range []int{0, -1, -2, -16, math.MinInt, math.MinInt + 1, 17, 18, 32, 1 << 20, math.MaxInt32, 1 << 32, 1<<32 + 1, math.MaxInt} {
			lanes(t, k, n, 0, api.ErrArg)
		}
	}
}

func TestP172Part(t *testing.T) {
	for of, want := range map[uint64]uint64{
		1: 0, 100: 4, 1 << 20: 15859153427004 % (1 << 20), 15859153427003: 1, 15859153427004: 0, 15859153427005: 15859153427004,
		1<<44 - 1: 15859153427004, 1 << 44: 15859153427004, 1 << 63: 15859153427004, math.MaxUint64: 15859153427004,
	} {
		parts(t, plain(), of, want, api.OK)
	}
	r := rand.New(rand.NewSource(1722))
	list := keys()
	for range 2000 {
		list = append(list, drawn(r))
	}
	for _, k := range list {
		for _, of := range []uint64{1, 2, 3, 7, 16, 99, 100, 101, 1 << 10, 1<<20 - 1, 1 << 20, 1<<20 + 1, 1<<32 + 1, 1<<44 - 1, 1 << 44, 1<<63 + 1, math.MaxUint64, r.Uint64() | 1} {
			parts(t, k, of, hashSays(k)/1048576%of, api.OK)
		}
	}
}

func TestP172PartOfNone(t *testing.T) {
	for _, k := range keys() {
		parts(t, k, 0, 0, api.ErrArg)
	}
}
