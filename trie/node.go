package trie

import (
	"iter"

	"patchbay/api"
	"patchbay/prefix"
)

// node is a prefix of a trie, or the longest one that covers two of them. What stands below it hangs on its kids. Tries share nodes: one that hangs in a trie does not change.
type node struct {
	at    api.Prefix
	has   bool // the trie has at; else two of its prefixes part here
	value int
	kids  [2]*node // by the bit behind at's
}

// bit answers the address's bit at the place: 0 or 1.
func bit(a api.Addr, place int) int {
	return int(a.B[place/8] >> (7 - place%8) & 1)
}

// covers tells whether p stands below the node.
func (n *node) covers(p api.Prefix) bool {
	return n.at != p && prefix.Covers(n.at, p)
}

// toward answers the kid on the way to an address that the node has. A node without kids may have no bit behind its own ones.
func (n *node) toward(a api.Addr) *node {
	if n.kids == [2]*node{} {
		return nil
	}
	return n.kids[bit(a, n.at.Bits)]
}

// with answers another node, with that kid in its place.
func (n node) with(kid *node) *node {
	n.kids[bit(kid.at.Addr, n.at.Bits)] = kid
	return &n
}

// put answers the tree below n with p and its number. What is not on the way to p is shared.
func put(n *node, p api.Prefix, v int) *node {
	own := &node{at: p, has: true, value: v}
	switch {
	case n == nil:
		return own
	case n.at == p:
		own.kids = n.kids
		return own
	case n.covers(p):
		return n.with(put(n.toward(p.Addr), p, v))
	case own.covers(n.at):
		return own.with(n)
	}
	return node{at: both(n.at, p)}.with(n).with(own)
}

// both answers the longest prefix that covers these two, neither of which covers the other one.
func both(p, q api.Prefix) api.Prefix {
	bits := 0
	for bit(p.Addr, bits) == bit(q.Addr, bits) {
		bits++
	}
	top, _ := prefix.Of(p.Addr, bits)
	return top
}

// cut answers the tree below n without p, which stands in it.
func cut(n *node, p api.Prefix) *node {
	less := *n
	if n.at == p {
		less.has, less.value = false, 0
	} else {
		less.kids[bit(p.Addr, n.at.Bits)] = cut(n.toward(p.Addr), p)
	}
	return less.kept()
}

// kept answers the node, if it is still there for something: else what is left below it, which may be nothing.
func (n node) kept() *node {
	switch {
	case n.has || n.kids[0] != nil && n.kids[1] != nil:
		return &n
	case n.kids[0] != nil:
		return n.kids[0]
	}
	return n.kids[1]
}

// below tells the nodes of the trees below these, and these, too. A node stands ahead of its kids, as its prefix does.
func below(tops ...*node) iter.Seq[*node] {
	return func(yield func(*node) bool) {
		var tell func(n *node) bool
		tell = func(n *node) bool {
			return n == nil || yield(n) && tell(n.kids[0]) && tell(n.kids[1])
		}
		for _, n := range tops {
			if !tell(n) {
				return
			}
		}
	}
}

// same tells whether two trees have the same prefixes with the same numbers. As these alone say which nodes there are, the nodes are held against each other, one by one.
func same(a, b *node) bool {
	if a == b {
		return true // shared, or nothing
	}
	if a == nil || b == nil {
		return false
	}
	return a.at == b.at && a.has == b.has && a.value == b.value && same(a.kids[0], b.kids[0]) && same(a.kids[1], b.kids[1])
}
