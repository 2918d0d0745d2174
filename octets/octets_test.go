package octets

import (
	"bytes"
	"hash/fnv"
	"math"
	"math/rand"
	"testing"

	"patchbay/api"
)

type port uint16

// text answers n bytes that are the same in every run.
func text(r *rand.Rand, n int) []byte {
	b := make([]byte, n)
	for i := range b {
		b[i] = byte(r.Intn(256))
	}
	return b
}

// cut answers b in parts, some of them odd, some empty.
func cut(r *rand.Rand, b []byte) [][]byte {
	var parts [][]byte
	for len(b) > 0 {
		n := r.Intn(min(len(b), 5) + 1)
		parts = append(parts, b[:n])
		b = b[n:]
	}
	return parts
}

// slowSum is the sum as the chapter's words say it, number by number.
func slowSum(b []byte) uint16 {
	if len(b)%2 == 1 {
		b = append(bytes.Clone(b), 0)
	}
	total := 0
	for i := 0; i < len(b); i += 2 {
		total += int(b[i])*256 + int(b[i+1])
	}
	for total/65536 > 0 {
		total = total%65536 + total/65536
	}
	return uint16(65535 - total)
}

// slowBits reads n bits from the bit from on, one by one.
func slowBits(b []byte, from, n int) uint64 {
	var v uint64
	for i := from; i < from+n; i++ {
		v *= 2
		if b[i/8]&(1<<(7-i%8)) != 0 {
			v++
		}
	}
	return v
}

// slowCommon goes bit by bit.
func slowCommon(a, b []byte) int {
	k := 0
	for k < len(a)*8 && k < len(b)*8 && slowBits(a, k, 1) == slowBits(b, k, 1) {
		k++
	}
	return k
}

// alike tells whether two sums are the same one, but that 0 and 65535 count as one.
func alike(a, b uint16) bool {
	return a%65535 == b%65535
}

func TestP11PutLaysEachKindsBytes(t *testing.T) {
	head := []byte{7}
	for _, x := range []struct {
		name      string
		got, want []byte
	}{
		{"uint8", Put(head, uint8(200)), []byte{7, 200}},
		{"uint16", Put(head, uint16(258)), []byte{7, 1, 2}},
		{"uint32", Put(head, uint32(0xfffefdfc)), []byte{7, 0xff, 0xfe, 0xfd, 0xfc}},
		{"uint64", Put(head, uint64(0x0102030405060708)), []byte{7, 1, 2, 3, 4, 5, 6, 7, 8}},
		{"a kind of uint16", Put(head, port(300)), []byte{7, 1, 44}},
		{"nought", Put(head, uint32(0)), []byte{7, 0, 0, 0, 0}},
		{"greatest", Put(head, uint64(math.MaxUint64)), []byte{7, 255, 255, 255, 255, 255, 255, 255, 255}},
		{"behind nothing", Put(nil, uint16(1)), []byte{0, 1}},
		{"behind no bytes", Put([]byte{}, uint8(0)), []byte{0}},
	} {
		if !bytes.Equal(x.got, x.want) {
			t.Errorf("Put of %s: % x, not % x", x.name, x.got, x.want)
		}
	}
}

func TestP11PutKeepsOffWhatIsHandedIn(t *testing.T) {
	room := []byte{7, 8, 9, 9, 9, 9}
	a := Put(room[:2], uint16(0x0102))
	b := Put(room[:2], uint16(0x0304))
	if !bytes.Equal(room, []byte{7, 8, 9, 9, 9, 9}) {
		t.Errorf("Put wrote into the room behind: % x", room)
	}
	if !bytes.Equal(a, []byte{7, 8, 1, 2}) || !bytes.Equal(b, []byte{7, 8, 3, 4}) {
		t.Errorf("two answers share: % x, % x", a, b)
	}
	a[0] = 1
	if room[0] != 7 || b[0] != 7 {
		t.Error("an answer shares with what was handed in")
	}
	room[1] = 1
	if a[1] != 8 {
		t.Error("what was handed in is kept")
	}
}

func TestP11Take(t *testing.T) {
	b := []byte{7, 1, 2, 0xff, 0xfe, 0, 0, 0, 128}
	if v, e := Take[uint8](b, 8); v != 128 || e != api.OK {
		t.Errorf("uint8: %d, %v", v, e)
	}
	if v, e := Take[uint16](b, 1); v != 258 || e != api.OK {
		t.Errorf("uint16: %d, %v", v, e)
	}
	if v, e := Take[port](b, 3); v != 0xfffe || e != api.OK {
		t.Errorf("a kind of uint16: %d, %v", v, e)
	}
	if v, e := Take[uint32](b, 5); v != 128 || e != api.OK {
		t.Errorf("uint32: %d, %v", v, e)
	}
	if v, e := Take[uint64](b, 0); v != 0x070102fffe000000 || e != api.OK {
		t.Errorf("uint64: %x, %v", v, e)
	}
	if v, e := Take[uint64](b, 1); v != 0x0102fffe00000080 || e != api.OK {
		t.Errorf("uint64 at the end: %x, %v", v, e)
	}
}

// refuses asks for a T at places of nine bytes where it does not stand.
func refuses[T Number](t *testing.T, width int) {
	b := bytes.Repeat([]byte{255}, 9)
	for _, at := range []int{-1, -width, math.MinInt, 9 - width + 1, 9, 10, math.MaxInt, math.MaxInt - width + 1} {
		if v, e := Take[T](b, at); v != 0 || e != api.ErrRange {
			t.Errorf("%d bytes at %d: %d, %v", width, at, v, e)
		}
	}
	if v, e := Take[T](b, 9-width); v != ^T(0) || e != api.OK {
		t.Errorf("%d bytes at the last place: %d, %v", width, v, e)
	}
	for n := range width {
		if v, e := Take[T](b[:n], 0); v != 0 || e != api.ErrRange {
			t.Errorf("%d bytes of %d: %d, %v", width, n, v, e)
		}
	}
	if v, e := Take[T](nil, 0); v != 0 || e != api.ErrRange {
		t.Errorf("%d bytes of nothing: %d, %v", width, v, e)
	}
}

func TestP11TakeRefusesPlacesThatAreNone(t *testing.T) {
	refuses[uint8](t, 1)
	refuses[uint16](t, 2)
	refuses[uint32](t, 4)
	refuses[uint64](t, 8)
	refuses[port](t, 2)
}

func TestP11TakeLooksAtNoRoomBehind(t *testing.T) {
	b := []byte{1, 2, 3, 4}
	if v, e := Take[uint16](b[:3], 2); v != 0 || e != api.ErrRange {
		t.Errorf("%d, %v", v, e)
	}
}

func TestP12SumExamples(t *testing.T) {
	for _, x := range []struct {
		parts [][]byte
		want  uint16
	}{
		{nil, 65535},
		{[][]byte{nil, {}}, 65535},
		{[][]byte{{0, 1, 0xf2, 3, 0xf4, 0xf5, 0xf6, 0xf7}}, 8717},
		{[][]byte{{1}}, 65279},
		{[][]byte{{1, 0}}, 65279},
		{[][]byte{{1}, {2}}, 65277},
		{[][]byte{{1}, nil, {2}}, 65277},
		{[][]byte{{1}, {2, 3}, {4}}, 65535 - 0x0102 - 0x0304},
		{[][]byte{{255, 255, 255, 255, 0, 1}}, 65534},
		{[][]byte{{255, 255}}, 0},
		{[][]byte{{0, 0}}, 65535},
	} {
		if got := Sum(x.parts...); got != x.want {
			t.Errorf("Sum of % x: %d, not %d", x.parts, got, x.want)
		}
	}
}

func TestP12SumOfMuch(t *testing.T) {
	// 2^18 numbers of 65534 are above 2^32: what is kept in 32 bits would lose the carries.
	b := bytes.Repeat([]byte{255, 254}, 1<<18)
	if got, want := Sum(b), slowSum(b); got != want {
		t.Errorf("%d, not %d", got, want)
	}
	r := rand.New(rand.NewSource(12))
	for n := range 200 {
		b := text(r, n)
		if got, want := Sum(b), slowSum(b); got != want {
			t.Errorf("Sum of %d bytes: %d, not %d", n, got, want)
		}
	}
}

func TestP12UpdateExamples(t *testing.T) {
	for _, x := range []struct{ sum, old, new, want uint16 }{
		{8717, 61955, 0, 5137},
		{0, 0, 1, 65534},
		{65535, 65535, 0, 65535},
		{65535, 0, 0, 0},
		{65535, 65535, 65535, 0},
		{0, 65535, 65535, 0},
		{0, 0, 65535, 0},
		{65535, 65535, 1, 65534},
	} {
		if got := Update(x.sum, x.old, x.new); got != x.want {
			t.Errorf("Update(%d, %d, %d): %d, not %d", x.sum, x.old, x.new, got, x.want)
		}
	}
}

func TestP13HashExamples(t *testing.T) {
	for _, x := range []struct {
		parts [][]byte
		want  uint64
	}{
		{nil, 14695981039346656037},
		{[][]byte{nil, {}}, 14695981039346656037},
		{[][]byte{[]byte("a")}, 12638187200555641996},
		{[][]byte{[]byte("foobar")}, 0x85944171f73967e8},
		{[][]byte{{0}}, 0xaf63bd4c8601b7df},
	} {
		if got := Hash(x.parts...); got != x.want {
			t.Errorf("Hash of % x: %d, not %d", x.parts, got, x.want)
		}
	}
	if Hash([]byte("a"), []byte("b")) != Hash([]byte("ab")) {
		t.Error("parts count")
	}
	if Hash([]byte("ab")) == Hash([]byte("ba")) {
		t.Error("order does not count")
	}
}

func TestP13HashIsTheOneOfTheLibrary(t *testing.T) {
	r := rand.New(rand.NewSource(13))
	for n := range 200 {
		b := text(r, n)
		h := fnv.New64a()
		h.Write(b)
		if got := Hash(b); got != h.Sum64() {
			t.Errorf("Hash of %d bytes: %d, not %d", n, got, h.Sum64())
		}
	}
}

func TestP14BitsExamples(t *testing.T) {
	eight := []byte{128, 0, 0, 0, 0, 0, 0, 1, 255}
	for _, x := range []struct {
		b       []byte
		from, n int
		want    uint64
		e       api.Errno
	}{
		{[]byte{0xa5}, 0, 4, 10, api.OK},
		{[]byte{0xa5, 0x0f}, 4, 8, 80, api.OK},
		{[]byte{0xa5}, 3, 0, 0, api.OK},
		{[]byte{0xa5}, 8, 0, 0, api.OK},
		{nil, 0, 0, 0, api.OK},
		{[]byte{0xa5}, 7, 1, 1, api.OK},
		{eight, 0, 64, 1<<63 | 1, api.OK},
		{eight, 1, 64, 3, api.OK},
		{eight, 8, 64, 511, api.OK},
		{eight, 9, 64, 0, api.ErrRange},
		{[]byte{0xa5}, 5, 4, 0, api.ErrRange},
		{[]byte{0xa5}, 8, 1, 0, api.ErrRange},
		{[]byte{0xa5}, 9, 0, 0, api.ErrRange},
		{nil, 0, 1, 0, api.ErrRange},
		{[]byte{0xa5}, -1, 1, 0, api.ErrRange},
		{[]byte{0xa5}, -1, 0, 0, api.ErrRange},
		{[]byte{0xa5}, math.MinInt, 64, 0, api.ErrRange},
		{eight, math.MaxInt, 64, 0, api.ErrRange},
		{eight, math.MaxInt - 63, 64, 0, api.ErrRange},
		{[]byte{0xa5}, 0, 65, 0, api.ErrArg},
		{eight, 0, 65, 0, api.ErrArg},
		{eight, 0, -1, 0, api.ErrArg},
		{eight, 0, math.MinInt, 0, api.ErrArg},
		{eight, 0, math.MaxInt, 0, api.ErrArg},
		{nil, -1, 65, 0, api.ErrArg},
		{nil, -1, -1, 0, api.ErrArg},
	} {
		if v, e := Bits(x.b, x.from, x.n); v != x.want || e != x.e {
			t.Errorf("Bits(% x, %d, %d): %d, %v, not %d, %v", x.b, x.from, x.n, v, e, x.want, x.e)
		}
	}
	if v, e := Bits([]byte{0, 255}[:1], 0, 16); v != 0 || e != api.ErrRange {
		t.Errorf("Bits of the room behind: %d, %v", v, e)
	}
}

func TestP14BitsAtEachPlace(t *testing.T) {
	b := text(rand.New(rand.NewSource(14)), 11)
	for from := range len(b)*8 + 1 {
		for n := 0; n <= 64 && from+n <= len(b)*8; n++ {
			if v, e := Bits(b, from, n); v != slowBits(b, from, n) || e != api.OK {
				t.Errorf("Bits %d, %d: %x, %v, not %x", from, n, v, e, slowBits(b, from, n))
			}
		}
	}
}

func TestP14CommonExamples(t *testing.T) {
	for _, x := range []struct {
		a, b []byte
		want int
	}{
		{[]byte{0xa5, 0x0f}, []byte{0xa5, 0x1f}, 11},
		{[]byte{0xa5}, []byte{0xa5, 0x0f}, 8},
		{nil, []byte{0xa5}, 0},
		{nil, nil, 0},
		{[]byte{128}, []byte{0}, 0},
		{[]byte{1}, []byte{0}, 7},
		{[]byte{1, 2, 3}, []byte{1, 2, 3}, 24},
		{[]byte{1, 2, 3}, []byte{1, 3, 3}, 15},
	} {
		if got := Common(x.a, x.b); got != x.want {
			t.Errorf("Common(% x, % x): %d, not %d", x.a, x.b, got, x.want)
		}
	}
}

// thereAndBack lays v behind b and takes it out again, as a number and as bits.
func thereAndBack[T Number](t *testing.T, b []byte, v T) {
	c := Put(b, v)
	if !bytes.Equal(c[:len(b)], b) {
		t.Errorf("what stands ahead of %d: % x, not % x", v, c[:len(b)], b)
	}
	if w, e := Take[T](c, len(b)); w != v || e != api.OK {
		t.Errorf("Take: %d, %v, not %d", w, e, v)
	}
	own := Put(nil, v)
	if w, e := Bits(own, 0, len(own)*8); w != uint64(v) || e != api.OK {
		t.Errorf("Bits: %d, %v, not %d", w, e, v)
	}
	if w, e := Bits(c, len(b)*8, len(own)*8); w != uint64(v) || e != api.OK {
		t.Errorf("Bits behind: %d, %v, not %d", w, e, v)
	}
}

func TestP15ThereAndBack(t *testing.T) {
	r := rand.New(rand.NewSource(15))
	for v := range 256 {
		thereAndBack(t, text(r, v%7), uint8(v))
	}
	for v := range 65536 {
		thereAndBack(t, nil, uint16(v))
	}
	for range 1000 {
		b := text(r, r.Intn(9))
		thereAndBack(t, b, port(r.Uint32()))
		thereAndBack(t, b, r.Uint32())
		thereAndBack(t, b, r.Uint64())
	}
	for _, v := range []uint64{0, 1, 1 << 31, 1 << 32, 1 << 63, math.MaxUint64} {
		thereAndBack(t, nil, v)
		thereAndBack(t, nil, uint32(v))
	}
}

func TestP16OwnSumBehind(t *testing.T) {
	r := rand.New(rand.NewSource(16))
	for n := 0; n < 200; n += 2 {
		b := text(r, n)
		if got := Sum(Put(b, Sum(b))); got != 0 {
			t.Errorf("%d bytes with their sum: %d", n, got)
		}
	}
}

func TestP16CutsDoNotCount(t *testing.T) {
	r := rand.New(rand.NewSource(161))
	for n := range 300 {
		b := text(r, n%40)
		parts := cut(r, b)
		if Sum(parts...) != Sum(b) {
			t.Errorf("Sum of % x: %d, not %d", parts, Sum(parts...), Sum(b))
		}
		if Hash(parts...) != Hash(b) {
			t.Errorf("Hash of % x: %d, not %d", parts, Hash(parts...), Hash(b))
		}
	}
}

func TestP16PlacesDoNotCount(t *testing.T) {
	r := rand.New(rand.NewSource(162))
	for range 300 {
		b := text(r, 4+r.Intn(20))
		i, j := r.Intn(len(b)/2)*2, r.Intn(len(b)/2)*2
		c := bytes.Clone(b)
		copy(c[i:i+2], b[j:j+2])
		copy(c[j:j+2], b[i:i+2])
		if Sum(c) != Sum(b) {
			t.Errorf("Sum of % x: %d, of % x: %d", b, Sum(b), c, Sum(c))
		}
	}
}

func TestP17UpdatesAreSums(t *testing.T) {
	r := rand.New(rand.NewSource(17))
	edges := []uint16{0, 1, 255, 256, 65534, 65535}
	for n := range 2000 {
		b := text(r, 2+r.Intn(12))
		if n%50 == 0 {
			clear(b)
		}
		at := r.Intn(len(b)/2) * 2
		old, _ := Take[uint16](b, at)
		new := uint16(r.Intn(65536))
		if n%2 == 0 {
			new = edges[r.Intn(len(edges))]
		}
		c := append(Put(b[:at], new), b[at+2:]...)
		got := Update(Sum(b), old, new)
		if !alike(got, Sum(c)) {
			t.Errorf("% x at %d to %d: %d, not %d", b, at, new, got, Sum(c))
		}
		if back := Update(got, new, old); !alike(back, Sum(b)) {
			t.Errorf("% x at %d to %d and back: %d, not %d", b, at, new, back, Sum(b))
		}
	}
}

func TestP17ThereAndBackOfAnySum(t *testing.T) {
	r := rand.New(rand.NewSource(171))
	for sum := range 65536 {
		old, new := uint16(r.Intn(65536)), uint16(r.Intn(65536))
		if back := Update(Update(uint16(sum), old, new), new, old); !alike(back, uint16(sum)) {
			t.Errorf("sum %d, %d to %d and back: %d", sum, old, new, back)
		}
	}
}

// near answers bytes that often have many first bits in common.
func near(r *rand.Rand) []byte {
	b := make([]byte, r.Intn(5))
	if len(b) > 0 && r.Intn(3) > 0 {
		b[r.Intn(len(b))] = 1 << r.Intn(8)
	}
	return b
}

func TestP18Common(t *testing.T) {
	r := rand.New(rand.NewSource(18))
	for range 5000 {
		a, b, c := near(r), near(r), near(r)
		ab, bc, ac := Common(a, b), Common(b, c), Common(a, c)
		if ab != slowCommon(a, b) {
			t.Errorf("Common(% x, % x): %d, not %d", a, b, ab, slowCommon(a, b))
		}
		if ab != Common(b, a) {
			t.Errorf("Common(% x, % x): %d, the other way round %d", a, b, ab, Common(b, a))
		}
		if ac < min(ab, bc) {
			t.Errorf("% x, % x, % x: %d, %d, %d", a, b, c, ab, bc, ac)
		}
		for k := range 40 {
			more := k < len(a)*8 && k < len(b)*8 && slowBits(a, 0, k+1) == slowBits(b, 0, k+1)
			if (ab > k) != more {
				t.Errorf("Common(% x, % x): %d, but the first %d bits alike: %v", a, b, ab, k+1, more)
			}
		}
	}
}

func TestNothingHandedInIsChanged(t *testing.T) {
	b := []byte{0xa5, 0x0f, 7, 255, 1, 2, 3, 4, 5}
	was := bytes.Clone(b)
	parts := [][]byte{b[:3], b[3:6]}
	Put(b[:4], uint32(1))
	Take[uint32](b, 1)
	Sum(parts...)
	Hash(parts...)
	Bits(b[:2], 3, 9)
	Common(b[:2], b[1:3])
	if !bytes.Equal(b, was) || len(parts) != 2 || len(parts[0]) != 3 || len(parts[1]) != 3 {
		t.Errorf("% x, not % x", b, was)
	}
}
