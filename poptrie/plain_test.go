package poptrie_test

import (
	"cmp"
	"maps"
	"slices"
	"strings"
	"testing"

	"crossway/addr"
	"crossway/api"
	"crossway/poptrie"
	"crossway/prefix"
)

// This is the chapter's words in another way: sequences of bits are texts, a trie is the
// set of the texts of its nodes, and what a slot is is asked of all routes.

// digits are the first bits of an address, `0` or `1` each; beyond its last bit `0`.
func digits(a api.Addr, n int) string {
	b := make([]byte, n)
	for i := range b {
		b[i] = '0' + byte(prefix.Bit(a, i))
	}
	return string(b)
}

// slotText is the six bits of a slot.
func slotText(v int) string {
	b := make([]byte, 6)
	for i := range b {
		b[i] = '0' + byte(v>>(5-i)&1)
	}
	return string(b)
}

// plainTrie is the routes of one family: each one's Next, by its bits.
type plainTrie map[string]int

func plainOf(l []api.Route, six bool) plainTrie {
	p := plainTrie{}
	for _, r := range l {
		if r.Prefix.Addr.Six == six {
			p[digits(r.Prefix.Addr, r.Prefix.Bits)] = r.Next
		}
	}
	return p
}

// sequences are those of the nodes, in the order of their numbers: shorter ones first.
func (p plainTrie) sequences() []string {
	set := map[string]bool{"": true}
	for s := range p {
		for n := 0; n < len(s); n += 6 {
			set[s[:n]] = true
		}
	}
	return slices.SortedFunc(maps.Keys(set), func(a, b string) int {
		return cmp.Or(cmp.Compare(len(a), len(b)), cmp.Compare(a, b))
	})
}

// longest is the Next of the longest route with which a sequence begins.
func (p plainTrie) longest(s string) int {
	for n := len(s); n >= 0; n-- {
		if next, ok := p[s[:n]]; ok {
			return next
		}
	}
	return 0
}

// trie is the nodes and leaves as the chapter's words have them.
func (p plainTrie) trie() (nodes []api.Node, leaves []int) {
	all := p.sequences()
	number := map[string]int{}
	for i, s := range all {
		number[s] = i
	}
	free := 1
	for _, s := range all {
		n := api.Node{FirstNode: free, FirstLeaf: len(leaves)}
		last := -1
		for v := range 64 {
			slot := s + slotText(v)
			if i, ok := number[slot]; ok {
				if i != free {
					panic("the numbers are not in order")
				}
				n.Nodes |= 1 << v
				free++
			} else if next := p.longest(slot); next != last {
				n.Leaves |= 1 << v
				leaves = append(leaves, next)
				last = next
			}
		}
		nodes = append(nodes, n)
	}
	return nodes, leaves
}

// plainShape is the shape of the table of some routes.
func plainShape(l []api.Route) shape {
	var x shape
	x.routes = slices.SortedFunc(slices.Values(l), func(a, b api.Route) int {
		switch {
		case prefix.Less(a.Prefix, b.Prefix):
			return -1
		case prefix.Less(b.Prefix, a.Prefix):
			return 1
		}
		return 0
	})
	for i, six := range families {
		x.nodes[i], x.leaves[i] = plainOf(l, six).trie()
	}
	return x
}

// plainFind goes through all routes.
func plainFind(l []api.Route, a api.Addr) int {
	best := api.Route{Prefix: api.Prefix{Bits: -1}}
	for _, r := range l {
		if prefix.Holds(r.Prefix, a) && r.Prefix.Bits > best.Prefix.Bits {
			best = r
		}
	}
	return best.Next
}

// expectAs holds a table against the table of some routes in the other way.
func expectAs(t *testing.T, x *poptrie.Table, l []api.Route) {
	t.Helper()
	got, want := shapeOf(x), plainShape(l)
	if got.isAs(want) {
		return
	}
	var texts []string
	for _, r := range want.routes[:min(len(want.routes), 8)] {
		texts = append(texts, prefix.Print(r.Prefix))
	}
	t.Errorf("L1: of the %d routes %s ..", len(l), strings.Join(texts, " "))
	if !slices.Equal(got.routes, want.routes) {
		t.Errorf("L1: Routes has %d, not %d", len(got.routes), len(want.routes))
	}
	for i, six := range families {
		if a, b := got.nodes[i], want.nodes[i]; !slices.Equal(a, b) {
			t.Errorf("L1: Nodes(%t) are %d, %v .., not %d, %v ..", six, len(a), a[:min(len(a), 5)], len(b), b[:min(len(b), 5)])
		}
		if a, b := got.leaves[i], want.leaves[i]; !slices.Equal(a, b) {
			t.Errorf("L1: Leaves(%t) are %d, %v .., not %d, %v ..", six, len(a), a[:min(len(a), 9)], len(b), b[:min(len(b), 9)])
		}
	}
}

// someAddr is an address that looks like chance, often one beside others.
func someAddr(s *source, six bool) api.Addr {
	hi, lo := s.next(), s.next()
	if s.below(2) == 0 {
		// Few different first bits, and few different last ones.
		hi, lo = uint64(s.below(5))<<62|uint64(s.below(3))<<44|uint64(s.below(2))<<32|uint64(s.below(3)), uint64(s.below(2))<<63|uint64(s.below(4))
	}
	if !six {
		return api.Addr{Lo: hi >> 32}
	}
	return api.Addr{Six: true, Hi: hi, Lo: lo}
}

// someLength is a number of bits: often one that ends with a group, or beside it.
func someLength(s *source, six bool) int {
	n := s.below(width(six) + 1)
	if s.below(2) == 0 {
		n = n/6*6 + s.below(3) - 1
	}
	return min(max(n, 0), width(six))
}

// somePrefix is a prefix that looks like chance, often one that another one covers.
func somePrefix(s *source, l []api.Route) api.Prefix {
	six := s.below(2) == 0
	a := someAddr(s, six)
	if len(l) > 0 && s.below(3) > 0 {
		a = l[s.below(len(l))].Prefix.Addr
		six = a.Six
		if s.below(2) == 0 {
			a = changed(a, s.below(width(six)))
		}
	}
	return first(a, someLength(s, six))
}

// changed is an address with another bit at a position.
func changed(a api.Addr, bit int) api.Addr {
	switch at := width(a.Six) - 1 - bit; {
	case at >= 64:
		a.Hi ^= 1 << (at - 64)
	default:
		a.Lo ^= 1 << at
	}
	return a
}

// someRoutes is so many routes with different prefixes that look like chance, and few
// different Nexts.
func someRoutes(s *source, n int) []api.Route {
	var l []api.Route
	for len(l) < n {
		p := somePrefix(s, l)
		if !slices.ContainsFunc(l, func(r api.Route) bool { return r.Prefix == p }) {
			l = append(l, api.Route{Prefix: p, Next: 1 + s.below(3)})
		}
	}
	return l
}

// someAddrs is addresses of both families: those at which routes begin and end, those
// beside them, and others.
func someAddrs(s *source, l []api.Route, n int) []api.Addr {
	var all []api.Addr
	for range n {
		six := s.below(2) == 0
		all = append(all, someAddr(s, six))
		if len(l) > 0 {
			p := l[s.below(len(l))].Prefix
			a := p.Addr
			for i := p.Bits; i < width(a.Six); i++ {
				a = changed(a, i)
			}
			all = append(all, p.Addr, a, changed(a, s.below(width(a.Six))), changed(p.Addr, s.below(width(a.Six))))
		}
	}
	return all
}

// spread is the least number of routes of a family whose trie has a number of nodes,
// which are of 18 bits each.
func spread(six bool, nodes int) []api.Route {
	var l []api.Route
	n := 1
	for i := 0; n < nodes; i++ {
		n++
		if i%64 == 0 {
			n++ // the slot of the root is a node for the first of 64 routes
		}
		l = append(l, api.Route{Prefix: first(from(six, uint64(i)<<52), 18), Next: 1 + i%3})
	}
	return l
}

// TestPlainWay has the other way right for what the chapter shows.
func TestPlainWay(t *testing.T) {
	l := []api.Route{to("10.0.0.0/8", 1), to("10.1.0.0/16", 2)}
	x := plainShape(l)
	if len(x.nodes[0]) != 3 || len(x.nodes[1]) != 1 || !slices.Equal(x.leaves[1], []int{0}) {
		t.Errorf("%v", x)
	}
	for s, want := range map[string]int{"10.1.2.3": 2, "10.2.0.1": 1, "11.0.0.0": 0} {
		if n := plainFind(l, at(s)); n != want {
			t.Errorf("%s: %d", s, n)
		}
	}
	for _, six := range families {
		for _, nodes := range []int{1, 3, 66, 68, 2047, 2048, 2049} {
			if n := len(plainOf(spread(six, nodes), six).sequences()); n != nodes {
				t.Errorf("%d nodes, not %d", n, nodes)
			}
		}
		if digits(from(six, 5<<61), 5) != "10100" || !addr.Valid(from(six, ^uint64(0))) {
			t.Errorf("from(%t) is wrong", six)
		}
	}
}
