package poptrie

import (
	"math/bits"

	"crossway/api"
)

// groupBits is how many bits of an address a node reads, and slotCount how many slots
// it has for them.
const (
	groupBits = 6
	slotCount = 1 << groupBits
)

// wordBits is how many bits each of the two numbers of an address has, and fourBits how
// many an address without Six has.
const (
	wordBits = 64
	fourBits = 32
)

// group returns the group of an address with a number, padded with zeros.
func group(a api.Addr, number int) int {
	hi, lo := a.Hi, a.Lo
	if !a.Six {
		hi, lo = a.Lo<<(wordBits-fourBits), 0
	}
	at := groupBits * number
	word := lo << max(at-wordBits, 0)
	if at < wordBits {
		// One group has bits of both numbers.
		word = hi<<at | lo>>(wordBits-at)
	}
	return int(word >> (wordBits - groupBits))
}

// part is what a slot stands for, or a node.
type part struct {
	depth  int         // how many groups it stands for
	next   int         // the Next of the longest route that holds all of it
	routes []api.Route // the routes that hold less of it, in their order
}

// isNode reports whether a slot is a node.
func (p part) isNode() bool { return len(p.routes) > 0 }

// slots returns what the slots of a node stand for.
func (p part) slots() [slotCount]part {
	var l [slotCount]part
	for v := range slotCount {
		l[v] = part{depth: p.depth + 1, next: p.next}
	}
	for i, r := range p.routes {
		v := group(r.Prefix.Addr, p.depth)
		spare := groupBits*(p.depth+1) - r.Prefix.Bits
		if spare < 0 {
			// In their order, the routes of one slot are side by side.
			l[v].routes = p.routes[i-len(l[v].routes) : i+1]
			continue
		}
		// In their order, a route comes before those that hold less of what it holds.
		for n := range 1 << spare {
			l[v+n].next = r.Next
		}
	}
	return l
}

// trie is the nodes of a family, and their leaves.
type trie struct {
	nodes  []api.Node
	leaves []int
}

// newTrie returns the trie of a family's routes, which are ordered; false: it has too
// many nodes.
func newTrie(l []api.Route) (trie, bool) {
	var t trie
	parts := []part{{routes: l}} // what has a number, in the order of the numbers
	store := func(p part) {
		n := api.Node{FirstNode: len(parts), FirstLeaf: len(t.leaves)}
		slots := p.slots()
		for v := range slotCount {
			s := slots[v]
			switch {
			case s.isNode():
				n.Nodes |= 1 << v
				parts = append(parts, s)
			case n.Leaves == 0 || s.next != t.leaves[len(t.leaves)-1]:
				n.Leaves |= 1 << v
				t.leaves = append(t.leaves, s.next)
			}
		}
		t.nodes = append(t.nodes, n)
	}
	for len(t.nodes) < len(parts) {
		if len(parts) > api.MaxNodes {
			return trie{}, false
		}
		store(parts[len(t.nodes)])
	}
	return t, true
}

// find returns the value of the leaf of a valid address.
func (t trie) find(a api.Addr) int {
	n := t.nodes[0]
	// No route is longer than the last group: at the latest, its slot is a leaf.
	for depth := 0; ; depth++ {
		v := group(a, depth)
		if n.Nodes>>v&1 == 0 {
			return t.leaves[n.FirstLeaf+count(n.Leaves, v+1)-1]
		}
		n = t.nodes[n.FirstNode+count(n.Nodes, v)]
	}
}

// count returns how many of the bits of a number below one of its bits are 1.
func count(number uint64, below int) int {
	return bits.OnesCount64(number & (1<<below - 1))
}
