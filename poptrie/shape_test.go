package poptrie_test

import (
	"math"
	"slices"
	"testing"

	"crossway/api"
	"crossway/poptrie"
)

// bothWays makes a table, and holds its shape and what it finds against the other way.
func bothWays(t *testing.T, s *source, l ...api.Route) *poptrie.Table {
	t.Helper()
	x := made(t, l...)
	expectAs(t, x, l)
	for _, a := range someAddrs(s, l, 20) {
		expectFind(t, x, a, plainFind(l, a))
	}
	return x
}

func expectTrie(t *testing.T, x *poptrie.Table, six bool, nodes []api.Node, leaves ...int) {
	t.Helper()
	if l := x.Nodes(six); !slices.Equal(l, nodes) {
		t.Errorf("L1: Nodes(%t) is %v, not %v", six, l, nodes)
	}
	if l := x.Leaves(six); !slices.Equal(l, leaves) {
		t.Errorf("L1: Leaves(%t) is %v, not %v", six, l, leaves)
	}
}

// nodesFor is how many nodes the trie of one route has: it ends in the last of them.
func nodesFor(bits int) int { return max((bits+5)/6, 1) }

// TestEachLength has one route of each number of bits: where a group ends, one bit ahead
// of it, one behind it, the whole address.
func TestEachLength(t *testing.T) {
	s := source(10)
	for _, six := range families {
		for bits := range width(six) + 1 {
			for _, n := range []uint64{0, math.MaxUint64, 0xa5a5a5a5a5a5a5a5, 0x123456789abcdef0} {
				a := from(six, n)
				if six {
					a.Lo = n<<1 | 1
				}
				x := bothWays(t, &s, api.Route{Prefix: first(a, bits), Next: 65535})
				if got := len(x.Nodes(six)); got != nodesFor(bits) {
					t.Errorf("L1: %d nodes for %d bits, not %d", got, bits, nodesFor(bits))
				}
				if got := len(x.Nodes(!six)); got != 1 {
					t.Errorf("L1: %d nodes of the family without routes", got)
				}
			}
		}
	}
}

// TestGroupEnds writes out the tries of routes that end with a group or beside it.
func TestGroupEnds(t *testing.T) {
	for _, six := range families {
		low, high := from(six, 0), from(six, math.MaxUint64)
		for _, c := range []struct {
			a      api.Addr
			bits   int
			nodes  []api.Node
			leaves []int
		}{
			{low, 0, []api.Node{{Leaves: 1, FirstNode: 1}}, []int{5}},
			{low, 1, []api.Node{{Leaves: 1 | 1<<32, FirstNode: 1}}, []int{5, 0}},
			{low, 5, []api.Node{{Leaves: 1 | 1<<2, FirstNode: 1}}, []int{5, 0}},
			{low, 6, []api.Node{{Leaves: 3, FirstNode: 1}}, []int{5, 0}},
			{high, 6, []api.Node{{Leaves: 1 | 1<<63, FirstNode: 1}}, []int{0, 5}},
			{low, 7, []api.Node{{Nodes: 1, Leaves: 2, FirstNode: 1}, {Leaves: 1 | 1<<32, FirstNode: 2, FirstLeaf: 1}}, []int{0, 5, 0}},
			{high, 7, []api.Node{{Nodes: 1 << 63, Leaves: 1, FirstNode: 1}, {Leaves: 1 | 1<<32, FirstNode: 2, FirstLeaf: 1}}, []int{0, 0, 5}},
			{low, 12, []api.Node{{Nodes: 1, Leaves: 2, FirstNode: 1}, {Leaves: 3, FirstNode: 2, FirstLeaf: 1}}, []int{0, 5, 0}},
			{high, 13, []api.Node{{Nodes: 1 << 63, Leaves: 1, FirstNode: 1}, {Nodes: 1 << 63, Leaves: 1, FirstNode: 2, FirstLeaf: 1}, {Leaves: 1 | 1<<32, FirstNode: 3, FirstLeaf: 2}}, []int{0, 0, 0, 5}},
		} {
			expectTrie(t, made(t, api.Route{Prefix: first(c.a, c.bits), Next: 5}), six, c.nodes, c.leaves...)
		}
	}
}

// TestLastGroups has the groups that have fewer bits than six: the rest are zeros of the
// address, but a slot with ones there begins with the route too.
func TestLastGroups(t *testing.T) {
	for _, c := range []struct {
		a      string
		six    bool
		bits   int
		leaves uint64
		values []int
	}{
		{"0.0.0.0", false, 32, 1 | 1<<16, []int{5, 0}},
		{"0.0.0.1", false, 32, 1 | 1<<16 | 1<<32, []int{0, 5, 0}},
		{"0.0.0.2", false, 32, 1 | 1<<32 | 1<<48, []int{0, 5, 0}},
		{"0.0.0.3", false, 32, 1 | 1<<48, []int{0, 5}},
		{"0.0.0.0", false, 31, 1 | 1<<32, []int{5, 0}},
		{"0.0.0.2", false, 31, 1 | 1<<32, []int{0, 5}},
		{"::", true, 128, 1 | 1<<16, []int{5, 0}},
		{"::1", true, 128, 1 | 1<<16 | 1<<32, []int{0, 5, 0}},
		{"::2", true, 128, 1 | 1<<32 | 1<<48, []int{0, 5, 0}},
		{"::3", true, 128, 1 | 1<<48, []int{0, 5}},
		{"::", true, 127, 1 | 1<<32, []int{5, 0}},
		{"::2", true, 127, 1 | 1<<32, []int{0, 5}},
	} {
		groups := nodesFor(width(c.six))
		var nodes []api.Node
		for i := range groups - 1 {
			nodes = append(nodes, api.Node{Nodes: 1, Leaves: 2, FirstNode: i + 1, FirstLeaf: i})
		}
		nodes = append(nodes, api.Node{Leaves: c.leaves, FirstNode: groups, FirstLeaf: groups - 1})
		values := append(make([]int, groups-1), c.values...)
		expectTrie(t, made(t, api.Route{Prefix: first(at(c.a), c.bits), Next: 5}), c.six, nodes, values...)
	}
}

// TestLastBits has all host routes of the last bits, each with a Next of its own.
func TestLastBits(t *testing.T) {
	s := source(11)
	for _, text := range []string{"10.9.8.0/29", "2001:db8::8/125", "ffff:ffff:ffff:ffff:ffff:ffff:ffff:fff8/125", "255.255.255.248/29"} {
		p := under(text)
		all := width(p.Addr.Six)
		var l []api.Route
		for i := range uint64(8) {
			a := p.Addr
			a.Lo += i
			l = append(l, api.Route{Prefix: first(a, all), Next: int(i) + 1})
		}
		x := bothWays(t, &s, l...)
		for _, r := range l {
			expectFind(t, x, r.Prefix.Addr, r.Next)
		}
	}
}

// TestWordsMeet has the group of an IPv6 address whose bits are in both of its numbers.
func TestWordsMeet(t *testing.T) {
	s := source(12)
	var l []api.Route
	for v := range uint64(64) {
		a := api.Addr{Six: true, Hi: 0x20010db8<<32 | v>>2, Lo: v << 62}
		l = append(l, api.Route{Prefix: first(a, 66), Next: int(v) + 1})
	}
	x := bothWays(t, &s, l...)
	for _, r := range l {
		expectFind(t, x, r.Prefix.Addr, r.Next)
		a := r.Prefix.Addr
		a.Lo |= 1<<62 - 1
		expectFind(t, x, a, r.Next)
	}
	for bits := 58; bits < 74; bits++ {
		bothWays(t, &s, api.Route{Prefix: first(api.Addr{Six: true, Hi: math.MaxUint64, Lo: 1 << 63}, bits), Next: 3}, to("::/0", 2))
		bothWays(t, &s, api.Route{Prefix: first(api.Addr{Six: true, Hi: 1, Lo: 3 << 62}, bits), Next: 3})
	}
}

// TestNoNodesAndAll has nodes without slots that are nodes, and with 64: FirstNode and
// FirstLeaf say what was numbered and stored before, also where nothing follows.
func TestNoNodesAndAll(t *testing.T) {
	for _, six := range families {
		// Every slot of the root is a node, and none of its slots is one.
		var l []api.Route
		want := []api.Node{{Nodes: math.MaxUint64, FirstNode: 1}}
		var leaves []int
		for v := range 64 {
			l = append(l, api.Route{Prefix: first(from(six, uint64(v)<<58), 7), Next: v + 1})
			want = append(want, api.Node{Leaves: 1 | 1<<32, FirstNode: 65, FirstLeaf: 2 * v})
			leaves = append(leaves, v+1, 0)
		}
		expectTrie(t, made(t, l...), six, want, leaves...)

		// A full node below the root, ahead of one with leaves only and behind one.
		l = []api.Route{{Prefix: first(from(six, 0), 7), Next: 1}, {Prefix: first(from(six, 2<<58), 7), Next: 2}}
		for v := range 64 {
			l = append(l, api.Route{Prefix: first(from(six, 1<<58|uint64(v)<<52), 18), Next: 3})
		}
		x := made(t, l...)
		n := x.Nodes(six)
		if len(n) != 68 {
			t.Fatalf("L1: %d nodes", len(n))
		}
		for i, node := range []api.Node{
			{Nodes: 7, Leaves: 8, FirstNode: 1},
			{Leaves: 1 | 1<<32, FirstNode: 4, FirstLeaf: 1},
			{Nodes: math.MaxUint64, FirstNode: 4, FirstLeaf: 3},
			{Leaves: 1 | 1<<32, FirstNode: 68, FirstLeaf: 3},
			{Leaves: 3, FirstNode: 68, FirstLeaf: 5},
		} {
			if n[i] != node {
				t.Errorf("L1: the node %d is %v, not %v", i, n[i], node)
			}
		}
		expectAs(t, x, l)
	}
}

// TestEqualLeaves has leaves with equal values side by side, and with a node between
// them: they are stored once; with another value between them, each is stored.
func TestEqualLeaves(t *testing.T) {
	root := func(v uint64) api.Addr { return from(false, v<<58) }
	for _, c := range []struct {
		l      []api.Route
		node   api.Node
		leaves []int
	}{
		// 1 1 2 0 ..
		{[]api.Route{{Prefix: first(root(0), 6), Next: 1}, {Prefix: first(root(1), 6), Next: 1}, {Prefix: first(root(2), 6), Next: 2}},
			api.Node{Leaves: 1 | 4 | 8, FirstNode: 1}, []int{1, 2, 0}},
		// 1 2 1 0 ..
		{[]api.Route{{Prefix: first(root(0), 6), Next: 1}, {Prefix: first(root(1), 6), Next: 2}, {Prefix: first(root(2), 6), Next: 1}},
			api.Node{Leaves: 1 | 2 | 4 | 8, FirstNode: 1}, []int{1, 2, 1, 0}},
		// 1 node 1 0 ..
		{[]api.Route{{Prefix: first(root(0), 6), Next: 1}, {Prefix: first(root(1), 7), Next: 9}, {Prefix: first(root(2), 6), Next: 1}},
			api.Node{Nodes: 2, Leaves: 1 | 8, FirstNode: 1}, []int{1, 0, 9, 0}},
		// 1 node 2 0 ..
		{[]api.Route{{Prefix: first(root(0), 6), Next: 1}, {Prefix: first(root(1), 7), Next: 9}, {Prefix: first(root(2), 6), Next: 2}},
			api.Node{Nodes: 2, Leaves: 1 | 4 | 8, FirstNode: 1}, []int{1, 2, 0, 9, 0}},
		// node node 0 ..
		{[]api.Route{{Prefix: first(root(0), 7), Next: 1}, {Prefix: first(root(1), 7), Next: 1}},
			api.Node{Nodes: 3, Leaves: 4, FirstNode: 1}, []int{0, 1, 0, 1, 0}},
		// 0 node 0 .., and 0 .. node
		{[]api.Route{{Prefix: first(root(1), 7), Next: 1}, {Prefix: first(root(63), 7), Next: 1}},
			api.Node{Nodes: 2 | 1<<63, Leaves: 1, FirstNode: 1}, []int{0, 1, 0, 1, 0}},
		// Routes of which a longer one has the same Next: 4 4 .., and 4 in the node.
		{[]api.Route{{Prefix: first(root(0), 0), Next: 4}, {Prefix: first(root(0), 6), Next: 4}, {Prefix: first(root(1), 7), Next: 4}},
			api.Node{Nodes: 2, Leaves: 1, FirstNode: 1}, []int{4, 4}},
	} {
		x := made(t, c.l...)
		if n := x.Nodes(false)[0]; n != c.node {
			t.Errorf("L1: the root is %v, not %v", n, c.node)
		}
		if l := x.Leaves(false); !slices.Equal(l, c.leaves) {
			t.Errorf("L1: Leaves is %v, not %v", l, c.leaves)
		}
		expectAs(t, x, c.l)
	}
}

// TestLeafAboveAndBelow has a slot whose node gets its value from a route above it: a
// node stores its own first leaf, also where the last one stored before is equal.
func TestLeafAboveAndBelow(t *testing.T) {
	x := made(t, to("0.0.0.0/0", 7), to("0.0.0.0/12", 7), to("252.0.0.0/7", 8))
	expectTrie(t, x, false, []api.Node{
		{Nodes: 1 | 1<<63, Leaves: 2, FirstNode: 1},
		{Leaves: 1, FirstNode: 3, FirstLeaf: 1},
		{Leaves: 1 | 1<<32, FirstNode: 3, FirstLeaf: 2},
	}, 7, 7, 8, 7)
}

func TestBothFamilies(t *testing.T) {
	x := made(t, to("::/1", 2), to("128.0.0.0/1", 3), to("8000::/7", 4))
	expectTrie(t, x, false, []api.Node{{Leaves: 1 | 1<<32, FirstNode: 1}}, 0, 3)
	expectTrie(t, x, true, []api.Node{
		{Nodes: 1 << 32, Leaves: 1 | 1<<33, FirstNode: 1},
		{Leaves: 1 | 1<<32, FirstNode: 2, FirstLeaf: 2},
	}, 2, 0, 4, 0)
}

// TestFullTries has tries of 2047, 2048 and 2049 nodes, alone and beside each other.
func TestFullTries(t *testing.T) {
	for _, six := range families {
		for _, nodes := range []int{2047, 2048} {
			l := spread(six, nodes)
			x := made(t, l...)
			if n := len(x.Nodes(six)); n != nodes {
				t.Errorf("L1: %d nodes, not %d", n, nodes)
			}
			expectAs(t, x, l)
		}
		expectNoNew(t, api.ErrTrieFull, spread(six, 2049)...)
		expectNoNew(t, api.ErrTrieFull, spread(six, 2100)...)
		expectNoNew(t, api.ErrTrieFull, spread(six, 4000)...)
		expectNoNew(t, api.ErrTrieFull, slices.Concat(spread(!six, 2048), spread(six, 2049))...)
		expectNoNew(t, api.ErrTrieFull, slices.Concat(spread(six, 2049), spread(!six, 1))...)
	}
	// Each family has its own bound.
	l := slices.Concat(spread(true, 2048), spread(false, 2048))
	x := made(t, l...)
	if len(x.Nodes(false)) != 2048 || len(x.Nodes(true)) != 2048 {
		t.Errorf("L1: %d and %d nodes", len(x.Nodes(false)), len(x.Nodes(true)))
	}
	expectNoNew(t, api.ErrTrieFull, slices.Concat(spread(true, 2049), spread(false, 2049))...)
}

// hosts is as many host routes as fit, each of which needs many nodes, and one more.
func hosts(six bool) (fit []api.Route, more api.Route) {
	s := source(13)
	for {
		a := from(six, s.next())
		if six {
			a.Lo = s.next()
		}
		r := api.Route{Prefix: first(a, width(six)), Next: 1 + len(fit)}
		if len(plainOf(append(slices.Clone(fit), r), six).sequences()) > 2048 {
			return fit, r
		}
		fit = append(fit, r)
	}
}

// TestFullOfHosts has tries that are full of deep nodes.
func TestFullOfHosts(t *testing.T) {
	for _, six := range families {
		fit, more := hosts(six)
		x := made(t, fit...)
		expectAs(t, x, fit)
		for _, r := range fit {
			expectFind(t, x, r.Prefix.Addr, r.Next)
		}
		expectFind(t, x, more.Prefix.Addr, 0)
		expectNoNew(t, api.ErrTrieFull, append(fit, more)...)
		if y, e := x.With(more); y != nil || e != api.ErrTrieFull {
			t.Errorf("L3: With of one host too many is %v %d", y != nil, e)
		}
	}
}

// TestFullNodes has every prefix that a node can hold: many routes in few nodes.
func TestFullNodes(t *testing.T) {
	s := source(14)
	for _, six := range families {
		var l []api.Route
		for bits := range 13 {
			for v := range uint64(1) << bits {
				l = append(l, api.Route{Prefix: first(from(six, v<<(64-bits)), bits), Next: 1 + s.below(65535)})
			}
		}
		x := made(t, shuffled(&s, l)...)
		if n := len(x.Nodes(six)); n != 65 {
			t.Errorf("L1: %d nodes", n)
		}
		expectAs(t, x, l)
		for range 200 {
			a := someAddr(&s, six)
			expectFind(t, x, a, plainFind(l, a))
		}
	}
}

// TestAnyShapes holds many tables against the other way, node by node.
func TestAnyShapes(t *testing.T) {
	s := source(15)
	for n := range 300 {
		bothWays(t, &s, someRoutes(&s, n/5)...)
	}
	for range 5 {
		bothWays(t, &s, someRoutes(&s, 200)...)
	}
}
