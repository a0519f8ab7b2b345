package poptrie_test

import (
	"math"
	"math/bits"
	"slices"
	"testing"

	"crossway/api"
	"crossway/poptrie"
)

func TestFindWrongAddresses(t *testing.T) {
	for _, l := range [][]api.Route{nil, {to("0.0.0.0/0", 1), to("::/0", 2)}, {to("0.0.0.0/0", 1)}, {to("::/0", 2), to("10.0.0.0/8", 3), to("0.0.0.0/32", 4), to("::/128", 5)}} {
		x := made(t, l...)
		for _, a := range wrongAddrs {
			expectFind(t, x, a, 0)
		}
	}
}

// TestFindLongest has addresses that no prefix, one, and several hold.
func TestFindLongest(t *testing.T) {
	x := made(t, to("10.0.0.0/8", 1), to("10.1.0.0/16", 2), to("10.1.2.0/23", 3), to("10.1.2.0/24", 4), to("10.1.2.128/25", 5), to("10.1.2.200/32", 6), to("12.0.0.0/6", 7), to("10.1.2.64/26", 8),
		to("2001:db8::/32", 11), to("2001:db8::/48", 12), to("2001:db8::/64", 13), to("2001:db8::/65", 14), to("2001:db8::1/128", 15), to("2001:db8:0:0:8000::/66", 16))
	for s, want := range map[string]int{
		"10.0.0.0": 1, "10.255.255.255": 1, "10.0.255.255": 1, "10.2.0.0": 1, "9.255.255.255": 0, "11.0.0.0": 0,
		"10.1.0.0": 2, "10.1.1.255": 2, "10.1.4.0": 2, "10.1.255.255": 2, "10.1.3.0": 3, "10.1.3.255": 3,
		"10.1.2.0": 4, "10.1.2.63": 4, "10.1.2.64": 8, "10.1.2.127": 8, "10.1.2.128": 5, "10.1.2.199": 5, "10.1.2.200": 6, "10.1.2.201": 5, "10.1.2.255": 5,
		"12.0.0.0": 7, "15.255.255.255": 7, "16.0.0.0": 0, "8.0.0.0": 0, "0.0.0.0": 0, "255.255.255.255": 0,
		"2001:db7:ffff:ffff:ffff:ffff:ffff:ffff": 0, "2001:db9::": 0, "2001:db8:1::": 11, "2001:db8:ffff:ffff:ffff:ffff:ffff:ffff": 11,
		"2001:db8:0:1::": 12, "2001:db8:0:ffff::1": 12, "2001:db8:0:0:c000::": 13, "2001:db8::": 14, "2001:db8::2": 14, "2001:db8:0:0:7fff::": 14, "2001:db8::1": 15,
		"2001:db8:0:0:8000::": 16, "2001:db8:0:0:bfff:ffff:ffff:ffff": 16, "::": 0, "::1": 0,
	} {
		expectFind(t, x, at(s), want)
	}
}

func TestFindDefault(t *testing.T) {
	x := made(t, to("0.0.0.0/0", 9), to("10.0.0.0/8", 1))
	for s, want := range map[string]int{"0.0.0.0": 9, "255.255.255.255": 9, "9.255.255.255": 9, "10.0.0.0": 1, "10.255.255.255": 1, "11.0.0.0": 9, "::": 0, "::a00:1": 0, "a00::": 0} {
		expectFind(t, x, at(s), want)
	}
	y := made(t, to("::/0", 9), to("2001:db8::/32", 1))
	for s, want := range map[string]int{"::": 9, "2001:db8::5": 1, "2001:db9::": 9, "ffff:ffff:ffff:ffff:ffff:ffff:ffff:ffff": 9, "0.0.0.0": 0, "32.1.13.184": 0} {
		expectFind(t, y, at(s), want)
	}
}

// TestFindHosts has routes of one address each: those beside it are not theirs.
func TestFindHosts(t *testing.T) {
	for _, s := range []string{"0.0.0.0", "0.0.0.1", "10.1.2.3", "127.255.255.255", "128.0.0.0", "255.255.255.254", "255.255.255.255",
		"::", "::1", "::ffff:ffff:ffff:ffff", "0:0:0:1::", "2001:db8::1", "7fff:ffff:ffff:ffff:ffff:ffff:ffff:ffff", "8000::", "ffff:ffff:ffff:ffff:ffff:ffff:ffff:ffff"} {
		a := at(s)
		x := made(t, api.Route{Prefix: first(a, width(a.Six)), Next: 8})
		expectFind(t, x, a, 8)
		for i := range width(a.Six) {
			expectFind(t, x, changed(a, i), 0)
		}
	}
}

// TestFindInOneFamily has addresses of the family that has no routes, with the same bits.
func TestFindInOneFamily(t *testing.T) {
	s := source(20)
	for _, six := range families {
		var l []api.Route
		for _, r := range someRoutes(&s, 60) {
			if r.Prefix.Addr.Six == six {
				l = append(l, r)
			}
		}
		l = append(l, api.Route{Prefix: first(from(six, 0), 0), Next: 5})
		x, e := poptrie.New(slices.CompactFunc(plainShape(l).routes, func(a, b api.Route) bool { return a.Prefix == b.Prefix })...)
		if e != api.OK {
			t.Fatalf("L1: %d", e)
		}
		for _, r := range x.Routes() {
			a := r.Prefix.Addr
			if x.Find(a) == 0 {
				t.Errorf("L2: Find(%v) is 0", a)
			}
			switch {
			case six:
				expectFind(t, x, api.Addr{Lo: a.Hi >> 32}, 0)
				expectFind(t, x, api.Addr{Lo: a.Lo & math.MaxUint32}, 0)
			default:
				expectFind(t, x, api.Addr{Six: true, Lo: a.Lo}, 0)
				expectFind(t, x, api.Addr{Six: true, Hi: a.Lo << 32}, 0)
				expectFind(t, x, api.Addr{Six: true, Hi: a.Lo}, 0)
			}
		}
	}
}

// TestFindEachBit has a chain of routes, each one bit longer than the one before.
func TestFindEachBit(t *testing.T) {
	for _, six := range families {
		for _, n := range []uint64{0, math.MaxUint64, 0x6b8b4567327b23c6} {
			a := from(six, n)
			if six {
				a.Lo = ^n
			}
			var l []api.Route
			for i := range width(six) + 1 {
				l = append(l, api.Route{Prefix: first(a, i), Next: i + 1})
			}
			x := made(t, l...)
			expectAs(t, x, l)
			expectFind(t, x, a, width(six)+1)
			for i := range width(six) {
				// The bits 0 to i - 1 are the same.
				expectFind(t, x, changed(a, i), i+1)
			}
		}
	}
}

// TestFindAgain has the same answers again, whatever was asked between.
func TestFindAgain(t *testing.T) {
	s := source(21)
	l := someRoutes(&s, 80)
	x := made(t, l...)
	want := map[api.Addr]int{}
	all := someAddrs(&s, l, 100)
	for _, a := range all {
		want[a] = x.Find(a)
	}
	for range 3 {
		for _, a := range shuffled(&s, all) {
			expectFind(t, x, a, want[a])
		}
	}
}

// group is six bits of an address from a position on, with zeros behind its last bit.
func group(a api.Addr, at int) int {
	n := 0
	for _, c := range digits(a, at+6)[at:] {
		n = n<<1 | int(c-'0')
	}
	return n
}

// walk is the chapter's walk over the nodes and leaves of a family; false: it leaves them.
func walk(nodes []api.Node, leaves []int, a api.Addr) (int, bool) {
	i := 0
	for d := 0; d < 22 && i < len(nodes); d++ {
		n, v := nodes[i], group(a, 6*d)
		if n.Nodes>>v&1 == 0 {
			at := n.FirstLeaf + bits.OnesCount64(n.Leaves<<(63-v)) - 1
			if at < 0 || at >= len(leaves) {
				return 0, false
			}
			return leaves[at], true
		}
		i = n.FirstNode + bits.OnesCount64(n.Nodes<<(63-v)) - 1
	}
	return 0, false
}

// TestWalk holds Find against the walk over Nodes and Leaves, and against all routes.
func TestWalk(t *testing.T) {
	s := source(22)
	for n := range 200 {
		l := someRoutes(&s, n/2)
		x := made(t, l...)
		y := shapeOf(x)
		for _, a := range someAddrs(&s, l, 60) {
			family := 0
			if a.Six {
				family = 1
			}
			want, ok := walk(y.nodes[family], y.leaves[family], a)
			if got := x.Find(a); !ok || got != want || got != plainFind(l, a) {
				t.Fatalf("L4: Find(%v) is %d, the walk ends with %d %t, and the longest route is %d", a, got, want, ok, plainFind(l, a))
			}
		}
	}
}
