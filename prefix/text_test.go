package prefix_test

import (
	"fmt"
	"math/rand"
	"net/netip"
	"strings"
	"testing"

	"patchbay/api"
	"patchbay/prefix"
)

// textSays answers the text of an address that may be, as the chapter says it.
func textSays(a api.Addr) string {
	if !a.V6 {
		return fmt.Sprintf("%d.%d.%d.%d", a.B[0], a.B[1], a.B[2], a.B[3])
	}
	var words []string
	for i := 0; i < 16; i += 2 {
		words = append(words, fmt.Sprintf("%x", int(a.B[i])*256+int(a.B[i+1])))
	}
	for n := 8; n > 1; n-- {
		for from := 0; from+n <= 8; from++ {
			if strings.Join(words[from:from+n], "") == strings.Repeat("0", n) {
				return strings.Join(words[:from], ":") + "::" + strings.Join(words[from+n:], ":")
			}
		}
	}
	return strings.Join(words, ":")
}

// readSays answers what ReadAddr answers, as the chapter says it. What is an address in any of the usual ways the library tells.
func readSays(s string) (api.Addr, api.Errno) {
	x, err := netip.ParseAddr(s)
	if err != nil || x.Zone() != "" {
		return api.Addr{}, api.ErrAddr
	}
	a := api.Addr{V6: x.Is6()}
	if a.V6 {
		a.B = x.As16()
	} else {
		b := x.As4()
		copy(a.B[:], b[:])
	}
	if textSays(a) != s {
		return api.Addr{}, api.ErrAddr
	}
	return a, api.OK
}

// rows are all addresses of IPv6 whose eight numbers are 0 or not.
func rows() []api.Addr {
	var list []api.Addr
	for which := range 256 {
		a := api.Addr{V6: true}
		for i := range 8 {
			if which>>i&1 == 1 {
				a.B[2*i+i%2] = byte(17*i + 1)
			}
		}
		list = append(list, a)
	}
	return list
}

// numbered are addresses with each of a list of numbers in each place.
func numbered() []api.Addr {
	var list []api.Addr
	for i := range 8 {
		for _, v := range []uint16{0, 1, 9, 10, 15, 16, 255, 256, 0xabc, 0xfff, 0x1000, 0xffff} {
			l := []uint16{1, 2, 3, 4, 5, 6, 7, 8}
			l[i] = v
			list = append(list, six(l...))
		}
	}
	for i := range 4 {
		for v := range 256 {
			a := four(1, 20, 100, 0)
			a.B[i] = byte(v)
			list = append(list, a)
		}
	}
	return list
}

func TestP153AddrText(t *testing.T) {
	for _, list := range [][]api.Addr{addrs(), rows(), numbered()} {
		for _, a := range list {
			if s, e := prefix.AddrText(a); s != textSays(a) || e != api.OK {
				t.Errorf("AddrText(%v): %q, %v, not %q", a, s, e, textSays(a))
			}
		}
	}
	for _, a := range notAddrs() {
		if s, e := prefix.AddrText(a); s != "" || e != api.ErrAddr {
			t.Errorf("AddrText(%v): %q, %v", a, s, e)
		}
	}
}

func TestP153Text(t *testing.T) {
	for _, p := range prefixes() {
		if s, e := prefix.Text(p); s != fmt.Sprintf("%s/%d", textSays(p.Addr), p.Bits) || e != api.OK {
			t.Errorf("Text(%v): %q, %v", p, s, e)
		}
	}
	for _, p := range notPrefixes() {
		if s, e := prefix.Text(p); s != "" || e != api.ErrPrefix {
			t.Errorf("Text(%v): %q, %v", p, s, e)
		}
	}
}

// texts are addresses and their texts.
func texts() map[string]api.Addr {
	return map[string]api.Addr{
		"10.0.0.255": four(10, 0, 0, 255), "0.0.0.0": four(0, 0, 0, 0), "255.255.255.255": four(255, 255, 255, 255),
		"::": six(), "::1": six(0, 0, 0, 0, 0, 0, 0, 1), "1::": six(1), "2001:db8::": six(0x2001, 0xdb8),
		"1:0:0:2::3": six(1, 0, 0, 2, 0, 0, 0, 3), "1::2:0:0:3:4": six(1, 0, 0, 2, 0, 0, 3, 4), "1:0:2:3:4:5:6:7": six(1, 0, 2, 3, 4, 5, 6, 7),
		"0:1:2:3:4:5:6:7": six(0, 1, 2, 3, 4, 5, 6, 7), "1:2:3:4:5:6:7:0": six(1, 2, 3, 4, 5, 6, 7, 0), "1:2:3:4:5:6::": six(1, 2, 3, 4, 5, 6), "::3:4:5:6:7:8": six(0, 0, 3, 4, 5, 6, 7, 8),
		"::ffff:a00:1": six(0, 0, 0, 0, 0, 0xffff, 0xa00, 1), "0:1::": six(0, 1), "::1:0": six(0, 0, 0, 0, 0, 0, 1, 0),
		"ffff:ffff:ffff:ffff:ffff:ffff:ffff:ffff": six(0xffff, 0xffff, 0xffff, 0xffff, 0xffff, 0xffff, 0xffff, 0xffff),
	}
}

// noTexts are texts of no address: some of none at all, others tell one in a way that is not its text.
func noTexts() []string {
	return []string{
		"", " ", ".", ":", ":::", "::::", "...", "1", "x", "10.0.0", "10.0.0.", ".10.0.0.1", "10..0.1", "1.2.3.4.5", "10.0.0.256", "10.0.0.1000", "10.0.0.4294967296", "10.0.0.18446744073709551616",
		"010.0.0.1", "10.00.0.1", "10.0.0.01", "+1.2.3.4", "-1.2.3.4", "1.2.3.-4", "0x1.2.3.4", "1.2.3.f", "1_0.0.0.1", "10.0.0.1 ", " 10.0.0.1", "10.0.0.1\n", "10.0.0.1\x00", "10,0,0,1", "10.0.0.١", "10.0.0.1/32",
		"1:2:3:4:5:6:7", "1:2:3:4:5:6:7:", ":1:2:3:4:5:6:7", ":2:3:4:5:6:7:8", "1:2:3:4:5:6:7:8:", "1:2:3:4:5:6:7:8:9", "1:2:3:4:5:6:7:8::", "::1:2:3:4:5:6:7:8", "1:2:3:4::5:6:7:8", "1:2:3:4:5:6:7:8::9",
		"1:0:2:3:4:5:6::", "::1:2:3:4:5:6:7", "1::3:4:5:6:7:8", "1::2::3", "::1::", "1:::2", "ABCD::", "Abcd::", "::ffff:10.0.0.1", "0:0::", "::0", "0::", "0::0", "::0:1", "1::0", "0:0:0:0:0:0:0:0", "1:0:0:2:3:4:5:6", "1::2:0:0:0:3", "1:0:0:2:0:0:3:4", "1::0:0:2:3",
		"01::", "::0001", "::00", "12345::", "10000::", "::g", "::1%1", "[::1]", "+1::", "-1::", "0x1::", "1_0::", "::1 ", " ::1", "::1\x00", "::/128", "１::",
		"ffff:ffff:ffff:ffff:ffff:ffff:ffff:fffff", "ffff:ffff:ffff:ffff:ffff:ffff:ffff:ffff:", "ffff:ffff:ffff:ffff:ffff:ffff:255.255.255.255",
		strings.Repeat("1.", 16) + "1", strings.Repeat("1.", 19) + "1", strings.Repeat("1:", 16) + "1", strings.Repeat("1:", 17) + ":1", "1::" + strings.Repeat("1:", 17),
		strings.Repeat("0", 40) + "::", strings.Repeat("1:", 1<<16), strings.Repeat(":", 1<<16), strings.Repeat("1.", 1<<16), strings.Repeat("\xff", 100),
	}
}

func TestP153ReadAddr(t *testing.T) {
	for s, want := range texts() {
		if a, e := prefix.ReadAddr(s); a != want || e != api.OK {
			t.Errorf("ReadAddr(%q): %v, %v", s, a, e)
		}
		if got, e := prefix.AddrText(want); got != s || e != api.OK {
			t.Errorf("AddrText(%v): %q, %v", want, got, e)
		}
	}
	for _, s := range noTexts() {
		if a, e := prefix.ReadAddr(s); a != (api.Addr{}) || e != api.ErrAddr {
			t.Errorf("ReadAddr(%q): %v, %v", s, a, e)
		}
	}
}

func TestP153Read(t *testing.T) {
	for s, want := range map[string]api.Prefix{
		"10.0.0.0/8": of(four(10, 0, 0, 0), 8), "0.0.0.0/0": of(four(0, 0, 0, 0), 0), "255.255.255.255/32": of(four(255, 255, 255, 255), 32), "128.0.0.0/1": of(four(128, 0, 0, 0), 1),
		"::/0": of(six(), 0), "::/128": of(six(), 128), "::1/128": of(six(0, 0, 0, 0, 0, 0, 0, 1), 128), "2001:db8::/32": of(six(0x2001, 0xdb8), 32), "::/33": of(six(), 33),
		"ffff:ffff:ffff:ffff:ffff:ffff:ffff:ffff/128": of(six(0xffff, 0xffff, 0xffff, 0xffff, 0xffff, 0xffff, 0xffff, 0xffff), 128),
	} {
		if p, e := prefix.Read(s); p != want || e != api.OK {
			t.Errorf("Read(%q): %v, %v", s, p, e)
		}
	}
	no := []string{
		"", "/", "/0", "/8", "10.0.0.0", "::", "10.0.0.0/", "::/", "10.0.0.1/8", "10.0.0.0/6", "128.0.0.0/0", "::1/127", "8000::/0", "10.0.0.0/08", "::/00", "::/129", "0.0.0.0/33", "0.0.0.0/-1", "::/-1", "::/-0", "::/+0", "10.0.0.0/+8",
		"::/0/0", "10.0.0.0/8/", "10.0.0.0//8", "10.0.0.0/8 ", "10.0.0.0 /8", "10.0.0.0/ 8", " 10.0.0.0/8", "10.0.0.0/0x8", "10.0.0.0/8.0", "10.0.0.0/1e1", "10.0.0.0/x", "10.0.0.0/255.0.0.0", "10/8", "10.0.0.0/18446744073709551624", "10.0.0.0/4294967304", "10.0.0.0/264",
		"10.0.0.0\\8", "0:0::/0", "ABCD::/16", "::/" + strings.Repeat("0", 1<<16), strings.Repeat("/", 1<<16),
	}
	for _, s := range noTexts() {
		no = append(no, s+"/0", s+"/8")
	}
	for _, s := range no {
		if p, e := prefix.Read(s); p != (api.Prefix{}) || e != api.ErrPrefix {
			t.Errorf("Read(%q): %v, %v", s, p, e)
		}
	}
}

// edits tells each text that one change makes of s: a sign more, one less, another one.
func edits(s string, tell func(string)) {
	const signs = "0123456789abfgAF:./+- _x%\x00"
	for i := range len(s) + 1 {
		for _, x := range signs {
			tell(s[:i] + string(x) + s[i:])
			if i < len(s) {
				tell(s[:i] + string(x) + s[i+1:])
			}
		}
		if i < len(s) {
			tell(s[:i] + s[i+1:])
		}
	}
}

// sameRead holds ReadAddr against what the chapter says, and Read of it with some bits.
func sameRead(t *testing.T, s string) {
	t.Helper()
	want, e := readSays(s)
	if a, got := prefix.ReadAddr(s); a != want || got != e {
		t.Fatalf("ReadAddr(%q): %v, %v, not %v, %v", s, a, got, want, e)
	}
	p, e2 := of(want, wide(want)), e
	if e != api.OK {
		p, e2 = api.Prefix{}, api.ErrPrefix
	}
	if q, got := prefix.Read(fmt.Sprintf("%s/%d", s, wide(want))); q != p || got != e2 {
		t.Fatalf("Read of %q and all bits: %v, %v", s, q, got)
	}
}

func TestP153ReadAddrOfOneChange(t *testing.T) {
	for s := range texts() {
		edits(s, func(s string) { sameRead(t, s) })
	}
	r := rand.New(rand.NewSource(153))
	for range 500 {
		edits(textSays(drawn(r).Addr), func(s string) {
			if r.Intn(8) == 0 {
				sameRead(t, s)
			}
		})
	}
}

// otherForms answers ways to tell an address of IPv6 that are not its text: with colons in place of each row of numbers that are 0, or of none; with noughts ahead.
func otherForms(a api.Addr) []string {
	var words, wide []string
	for i := 0; i < 16; i += 2 {
		v := int(a.B[i])*256 + int(a.B[i+1])
		words = append(words, fmt.Sprintf("%x", v))
		wide = append(wide, fmt.Sprintf("%04x", v))
	}
	list := []string{strings.Join(words, ":"), strings.Join(wide, ":")}
	for from := range 8 {
		for to := from + 1; to <= 8 && words[to-1] == "0"; to++ {
			list = append(list, strings.Join(words[:from], ":")+"::"+strings.Join(words[to:], ":"))
		}
	}
	return list
}

func TestP153ReadAddrOfOtherForms(t *testing.T) {
	for _, a := range rows() {
		for _, s := range otherForms(a) {
			want, e := a, api.OK
			if s != textSays(a) {
				want, e = api.Addr{}, api.ErrAddr
			}
			if got, e2 := prefix.ReadAddr(s); got != want || e2 != e {
				t.Errorf("ReadAddr(%q): %v, %v", s, got, e2)
			}
		}
	}
}

func TestP156WhatIsWrittenIsRead(t *testing.T) {
	for _, list := range [][]api.Addr{addrs(), rows(), numbered()} {
		for _, a := range list {
			s, e := prefix.AddrText(a)
			if b, e2 := prefix.ReadAddr(s); b != a || e != api.OK || e2 != api.OK {
				t.Errorf("%v is written as %q, %v, and read as %v, %v", a, s, e, b, e2)
			}
		}
	}
	list := prefixes()
	r := rand.New(rand.NewSource(156))
	for range 2000 {
		list = append(list, drawn(r))
	}
	for _, p := range list {
		s, e := prefix.Text(p)
		if q, e2 := prefix.Read(s); q != p || e != api.OK || e2 != api.OK {
			t.Errorf("%v is written as %q, %v, and read as %v, %v", p, s, e, q, e2)
		}
	}
}

func TestP156WhatIsReadIsWritten(t *testing.T) {
	read := 0
	for from := range texts() {
		edits(from, func(s string) {
			if a, e := prefix.ReadAddr(s); e == api.OK {
				if got, e := prefix.AddrText(a); got != s || e != api.OK {
					t.Fatalf("%q is read as %v, and written as %q, %v", s, a, got, e)
				}
				read++
			}
		})
		for bits := range 130 {
			s := fmt.Sprintf("%s/%d", from, bits)
			if p, e := prefix.Read(s); e == api.OK {
				if got, e := prefix.Text(p); got != s || e != api.OK {
					t.Fatalf("%q is read as %v, and written as %q, %v", s, p, got, e)
				}
				read++
			}
		}
	}
	if read < 1000 {
		t.Errorf("only %d texts were read", read)
	}
}
