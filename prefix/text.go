package prefix

import (
	"strconv"
	"strings"

	"patchbay/api"
	"patchbay/octets"
)

const (
	fourBytes   = 4
	sixNumbers  = 8
	longestText = len("ffff:ffff:ffff:ffff:ffff:ffff:ffff:ffff")
)

// AddrText answers the text of the address.
func AddrText(a api.Addr) (string, api.Errno) {
	if e := CheckAddr(a); e != api.OK {
		return "", e
	}
	if a.V6 {
		return sixText(a), api.OK
	}
	return fourText(a), api.OK
}

// Text answers the text of the prefix.
func Text(p api.Prefix) (string, api.Errno) {
	if e := Check(p); e != api.OK {
		return "", e
	}
	addr, e := AddrText(p.Addr)
	return addr + "/" + strconv.Itoa(p.Bits), e
}

func fourText(a api.Addr) string {
	var list []uint64
	for _, x := range a.B[:fourBytes] {
		list = append(list, uint64(x))
	}
	return joined(list, ".", 10)
}

func sixText(a api.Addr) string {
	var list []uint64
	for i := range sixNumbers {
		v, _ := octets.Take[uint16](a.B[:], 2*i)
		list = append(list, uint64(v))
	}
	from, n := longestRow(list)
	if n == 0 {
		return joined(list, ":", 16)
	}
	return joined(list[:from], ":", 16) + "::" + joined(list[from+n:], ":", 16)
}

// longestRow answers where the longest row of two or more numbers that are 0 begins, of several the first one, and how long it is.
func longestRow(list []uint64) (from, n int) {
	row := 0
	for i, v := range list {
		row++
		if v != 0 {
			row = 0
		}
		if row > max(n, 1) {
			from, n = i+1-row, row
		}
	}
	return from, n
}

// joined answers the numbers as a text, with that between.
func joined(list []uint64, between string, base int) string {
	var out []byte
	for i, v := range list {
		if i > 0 {
			out = append(out, between...)
		}
		out = strconv.AppendUint(out, v, base)
	}
	return string(out)
}

// ReadAddr answers the address whose text s is.
func ReadAddr(s string) (api.Addr, api.Errno) {
	a, ok := looseAddr(s)
	if !ok {
		return api.Addr{}, api.ErrAddr
	}
	// There are more ways to tell an address than its text.
	if text, e := AddrText(a); e != api.OK || text != s {
		return api.Addr{}, api.ErrAddr
	}
	return a, api.OK
}

// Read answers the prefix whose text s is.
func Read(s string) (api.Prefix, api.Errno) {
	addr, bits, _ := strings.Cut(s, "/")
	a, e := ReadAddr(addr)
	n, err := strconv.Atoi(bits)
	if e != api.OK || err != nil {
		return api.Prefix{}, api.ErrPrefix
	}
	p := api.Prefix{Addr: a, Bits: n}
	// A number of bits can be told in more ways than one, too.
	if text, e := Text(p); e != api.OK || text != s {
		return api.Prefix{}, api.ErrPrefix
	}
	return p, api.OK
}

// looseAddr answers the address that s tells, be it by its text or in another way, and whether it tells one.
func looseAddr(s string) (api.Addr, bool) {
	switch {
	case len(s) > longestText:
		return api.Addr{}, false
	case strings.Contains(s, ":"):
		return looseSix(s)
	}
	return looseFour(s)
}

func looseFour(s string) (api.Addr, bool) {
	list, ok := numbers(s, ".", 10, 8)
	if !ok || len(list) != fourBytes {
		return api.Addr{}, false
	}
	var a api.Addr
	for i, v := range list {
		a.B[i] = byte(v)
	}
	return a, true
}

func looseSix(s string) (api.Addr, bool) {
	front, back, short := strings.Cut(s, "::")
	list, ok := numbers(front, ":", 16, 16)
	tail, fine := numbers(back, ":", 16, 16)
	spare := sixNumbers - len(list) - len(tail)
	if !ok || !fine || spare < 0 || spare > 0 && !short {
		return api.Addr{}, false
	}
	for range spare {
		list = append(list, 0)
	}
	var b []byte
	for _, v := range append(list, tail...) {
		b = octets.Put(b, uint16(v))
	}
	return api.Addr{V6: true, B: [16]byte(b)}, true
}

// numbers answers the numbers that s tells, of so many bits at most each, and whether it tells nothing else.
func numbers(s, between string, base, bits int) ([]uint64, bool) {
	if s == "" {
		return nil, true
	}
	var list []uint64
	for part := range strings.SplitSeq(s, between) {
		v, err := strconv.ParseUint(part, base, bits)
		if err != nil {
			return nil, false
		}
		list = append(list, v)
	}
	return list, true
}
