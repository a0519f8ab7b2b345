package arena

import "math/bits"

// orders is a set of orders of blocks: the bit 2^k stands for the order k.
type orders uint32

// tree holds the free blocks of an arena, so that the first one of an order is found,
// and the buddy of one is looked at, without going through all of them.
//
// The node 1 stands for the whole arena, and the nodes 2n and 2n + 1 for the halves of
// the block of the node n. Each node has the orders of the free blocks in its block;
// its own order is among them only if the whole block is free, and is the only one
// then. What the nodes below that of a taken or a free block have is never read.
type tree struct {
	order int
	nodes []orders
}

// root is the node of the whole arena.
const root = 1

// newTree returns the tree of an arena that is one free block.
func newTree(order int) tree {
	t := tree{order: order, nodes: make([]orders, 2<<order)}
	t.nodes[root] = 1 << order
	return t
}

// node returns the node of the block of an order at a position.
func (t tree) node(at, order int) int { return (1<<t.order + at) >> order }

// least returns the least order of a free block that is not below a given one.
func (t tree) least(order int) int {
	fit := t.nodes[root] >> order << order
	if fit == 0 {
		return none
	}
	return bits.TrailingZeros32(uint32(fit))
}

// greatest returns the greatest order of a free block.
func (t tree) greatest() int { return bits.Len32(uint32(t.nodes[root])) - 1 }

// first returns the position of the first free block of an order that free blocks have.
func (t tree) first(order int) int {
	n := root
	for range t.order - order {
		n *= 2
		if t.nodes[n]>>order&1 == 0 {
			n++
		}
	}
	return n<<order - 1<<t.order
}

// cut removes the first block of the order to from the free block of the order from at
// a position: second halves of what is split stay free.
func (t tree) cut(at, from, to int) {
	for k := from - 1; k >= to; k-- {
		t.nodes[t.node(at+1<<k, k)] = 1 << k
	}
	t.set(at, to, 0)
}

// add makes the block of an order at a position free, merged with its buddies.
func (t tree) add(at, order int) { t.set(at, order, 1<<order) }

// set sets the node of a block, and those above it by what is below them.
func (t tree) set(at, order int, own orders) {
	n := t.node(at, order)
	t.nodes[n] = own
	for k := order; k < t.order; k++ {
		n /= 2
		t.nodes[n] = joined(t.nodes[2*n], t.nodes[2*n+1], k)
	}
}

// joined returns the set of a block whose halves have the order k, by those of the
// halves.
func joined(first, second orders, k int) orders {
	whole := orders(1) << k
	if first == whole && second == whole {
		return whole << 1
	}
	return first | second
}
