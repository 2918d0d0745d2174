package rule

import (
	"patchbay/api"
	"patchbay/prefix"
)

const maxNumber = 1<<16 - 1

// Covers tells whether all usual packets that meet n meet m, too.
func Covers(m, n api.Match) bool {
	return Check(m) == api.OK && Check(n) == api.OK && covers(m, n)
}

// Apart tells whether no usual packet meets both.
func Apart(m, n api.Match) bool {
	return Check(m) == api.OK && Check(n) == api.OK && apart(m, n)
}

// covers is Covers of matches that may be. What n does not ask, even told in full, is anything: there m may not ask.
func covers(m, n api.Match) bool {
	n = full(n)
	left := m.Asks
	left &^= n.Asks & fields(
		spanCovers(m.In, n.In),
		prefix.Covers(m.Src, n.Src),
		prefix.Covers(m.Dst, n.Dst),
		m.Proto == n.Proto,
		spanCovers(m.SrcPort, n.SrcPort),
		spanCovers(m.DstPort, n.DstPort),
	)
	return left == 0
}

// apart is Apart of matches that may be. What keeps them apart is a field that both ask, if one of them is told in full: else one might ask Src alone, of one kind, and the other one Dst, of the other kind.
func apart(m, n api.Match) bool {
	n = full(n)
	both := m.Asks & n.Asks
	both &^= fields(
		spansMeet(m.In, n.In),
		prefix.Covers(m.Src, n.Src) || prefix.Covers(n.Src, m.Src),
		prefix.Covers(m.Dst, n.Dst) || prefix.Covers(n.Dst, m.Dst),
		m.Proto == n.Proto,
		spansMeet(m.SrcPort, n.SrcPort),
		spansMeet(m.DstPort, n.DstPort),
	)
	return both != 0
}

// full answers the match that asks as much as it can, and is met by the same usual packets. (It asks ports whatever the protocol is: any are in what it asks then.)
func full(m api.Match) api.Match {
	if !asksAll(m, api.AskIn) {
		m.In = api.Span{To: api.MaxPort}
	}
	if !asksAll(m, api.AskSrcPort) {
		m.SrcPort = api.Span{To: maxNumber}
	}
	if !asksAll(m, api.AskDstPort) {
		m.DstPort = api.Span{To: maxNumber}
	}
	m.Asks |= api.AskIn | api.AskSrcPort | api.AskDstPort
	switch m.Asks & (api.AskSrc | api.AskDst) {
	case api.AskSrc:
		m.Dst = whole(m.Src)
		m.Asks |= api.AskDst
	case api.AskDst:
		m.Src = whole(m.Dst)
		m.Asks |= api.AskSrc
	}
	return m
}

// whole answers the prefix that has all addresses of p's kind.
func whole(p api.Prefix) api.Prefix {
	return api.Prefix{Addr: api.Addr{V6: p.Addr.V6}}
}

// spanCovers tells whether all numbers of t are in s.
func spanCovers(s, t api.Span) bool {
	return s.From <= t.From && t.To <= s.To
}

// spansMeet tells whether there is a number in both.
func spansMeet(s, t api.Span) bool {
	return s.From <= t.To && t.From <= s.To
}
