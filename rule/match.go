package rule

import (
	"patchbay/api"
	"patchbay/prefix"
)

const allFields = api.AskIn | api.AskSrc | api.AskDst | api.AskProto | api.AskSrcPort | api.AskDstPort

// ask tells whether something holds of a packet.
type ask func(in int, h api.Header) bool

// fields answers the bits of those fields of which it is true: of In, Src, Dst, Proto, SrcPort and DstPort.
func fields(held ...bool) uint8 {
	var bits uint8
	for i, is := range held {
		if is {
			bits |= api.AskIn << i
		}
	}
	return bits
}

// filled answers the bits of the fields that are not zero.
func filled(m api.Match) uint8 {
	return fields(
		m.In != api.Span{},
		m.Src != api.Prefix{},
		m.Dst != api.Prefix{},
		m.Proto != 0,
		m.SrcPort != api.Span{},
		m.DstPort != api.Span{},
	)
}

// asksAll tells whether the match asks all these fields.
func asksAll(m api.Match, bits uint8) bool {
	return m.Asks&bits == bits
}

// Check answers whether the match may be.
func Check(m api.Match) api.Errno {
	wrong := filled(m) &^ m.Asks
	wrong |= m.Asks &^ allFields
	if wrong != 0 || !spansMayBe(m) || !prefixesMayBe(m) || !portsMayBe(m) {
		return api.ErrMatch
	}
	return api.OK
}

// spansMayBe holds of spans that are not asked, too: these are zero.
func spansMayBe(m api.Match) bool {
	return m.In.From <= m.In.To && m.In.To <= api.MaxPort &&
		m.SrcPort.From <= m.SrcPort.To && m.DstPort.From <= m.DstPort.To
}

// prefixesMayBe holds of prefixes that are not asked, too: a zero one may be.
func prefixesMayBe(m api.Match) bool {
	if prefix.Check(m.Src) != api.OK || prefix.Check(m.Dst) != api.OK {
		return false
	}
	return !asksAll(m, api.AskSrc|api.AskDst) || m.Src.Addr.V6 == m.Dst.Addr.V6
}

// portsMayBe tells whether the match asks no ports, or a protocol that has some.
func portsMayBe(m api.Match) bool {
	if m.Asks&(api.AskSrcPort|api.AskDstPort) == 0 {
		return true
	}
	return asksAll(m, api.AskProto) && (m.Proto == api.ProtoTCP || m.Proto == api.ProtoUDP)
}

// Meets tells whether the packet meets the match.
func Meets(m api.Match, in int, h api.Header) bool {
	return Check(m) == api.OK && hold(asks(m), in, h)
}

// asks answers what the match asks.
func asks(m api.Match) []ask {
	var list []ask
	add := func(field uint8, a ask) {
		if asksAll(m, field) {
			list = append(list, a)
		}
	}
	add(api.AskIn, func(in int, _ api.Header) bool { return has(m.In, in) })
	add(api.AskSrc, func(_ int, h api.Header) bool { return prefix.Has(m.Src, h.Src) })
	add(api.AskDst, func(_ int, h api.Header) bool { return prefix.Has(m.Dst, h.Dst) })
	add(api.AskProto, func(_ int, h api.Header) bool { return m.Proto == h.Proto })
	add(api.AskSrcPort, func(_ int, h api.Header) bool { return has(m.SrcPort, int(h.SrcPort)) })
	add(api.AskDstPort, func(_ int, h api.Header) bool { return has(m.DstPort, int(h.DstPort)) })
	return list
}

// hold tells whether all that is asked holds of the packet.
func hold(list []ask, in int, h api.Header) bool {
	for _, a := range list {
		if !a(in, h) {
			return false
		}
	}
	return true
}

// has takes any number: a port at which a packet comes in need not be one.
func has(s api.Span, v int) bool {
	return int(s.From) <= v && v <= int(s.To)
}
