package resolve_test

import (
	"slices"
	"testing"

	"crossway/api"
	"crossway/prefix"
	"crossway/resolve"
	"crossway/rib"
)

func TestTableOfEmpty(t *testing.T) {
	expectTable(t, rib.New(), ports(t, ""))
	expectTable(t, rib.New(), ports(t, "ud"))
	r := rib.New()
	put(t, r, "10.0.0.0/8", by(1))
	drop(t, r, "10.0.0.0/8", by(1))
	expectTable(t, r, ports(t, "u"))
}

// TestTableOfSomeWithoutHop: prefixes that have no hop, first, last and among others, for
// any reason, have no entry.
func TestTableOfSomeWithoutHop(t *testing.T) {
	r, s := rib.New(), ports(t, "ud")
	for p, x := range map[string]api.Path{
		"0.0.0.0/1": by(2), "10.0.0.0/8": by(1), "10.0.0.0/9": via("99.0.0.1"), "10.0.0.0/10": via("10.0.0.1"), "10.0.0.0/32": away(), "10.1.0.0/16": by(3), "10.2.0.0/16": via("10.9.9.9"),
		"::/0": near(1, "fe80::1"), "2001:db8::/32": near(2, "fe80::1"), "2001:db8::/33": via("2001:db7::1"), "2001:db9::/32": via("2001:db9::1"), "3fff::/16": via("3fff::1"), "3fff::1/128": of(3, by(1)),
		"3fff::2/128": by(2),
	} {
		put(t, r, p, x)
	}
	expectTable(t, r, s,
		entry("10.0.0.0/8", hop(1)), entry("10.0.0.0/32", nowhere), entry("::/0", hop(1, "fe80::1")), entry("2001:db8::/33", hop(1, "fe80::1")), entry("3fff::/16", hop(1, "3fff::1")), entry("3fff::1/128", hop(1)))
	turn(t, s, 1, false)
	expectTable(t, r, s, entry("10.0.0.0/32", nowhere))
	drop(t, r, "10.0.0.0/32", away())
	expectTable(t, r, s)
	turn(t, s, 2, true)
	expectTable(t, r, s, entry("0.0.0.0/1", hop(2)), entry("10.0.0.0/9", hop(2, "99.0.0.1")), entry("2001:db8::/32", hop(2, "fe80::1")), entry("3fff::2/128", hop(2)))
}

// ninety are as many prefixes as may have paths, of both families, in their order.
func ninety() []api.Prefix {
	l := []api.Prefix{pre("0.0.0.0/0"), pre("10.0.0.0/8")}
	for i := range uint64(43) {
		l = append(l, api.Prefix{Addr: api.Addr{Lo: 10<<24 + (i+1)<<16}, Bits: 16})
	}
	l = append(l, pre("::/0"), pre("2001:db8::/32"))
	for i := range uint64(43) {
		l = append(l, api.Prefix{Addr: api.Addr{Six: true, Hi: 0x20010db8<<32 + i + 1}, Bits: 64})
	}
	return l
}

// TestTableOfNinety: each prefix of a full rib has its entry, in their order; one that has
// none leaves no gap.
func TestTableOfNinety(t *testing.T) {
	r, s := rib.New(), ports(t, "uuuuuuuu")
	var want []api.Entry
	for i, p := range ninety() {
		want = append(want, api.Entry{Prefix: p, Hop: hop(i%8 + 1)})
	}
	for i := range want {
		x := want[i*37%len(want)]
		put(t, r, prefix.Print(x.Prefix), by(x.Hop.Port))
	}
	expectTable(t, r, s, want...)
	for port := 1; port <= 8; port++ {
		turn(t, s, port, false)
		want = slices.DeleteFunc(want, func(x api.Entry) bool { return x.Hop.Port == port })
		expectTable(t, r, s, want...)
	}
}

// TestTableOfNinetyInAChain: the deepest paths that there may be.
func TestTableOfNinetyInAChain(t *testing.T) {
	r, s := chain(t, true, 89, by(1)), ports(t, "u")
	var want []api.Entry
	for i := 81; i < 90; i++ {
		h := api.Hop{Port: 1, Via: heldBy(true, 89)}
		if i == 89 {
			h = hop(1)
		}
		want = append(want, api.Entry{Prefix: inChain(true, i), Hop: h})
	}
	expectTable(t, r, s, want...)
	turn(t, s, 1, false)
	expectTable(t, r, s)
}

func TestLookOfNone(t *testing.T) {
	l := []api.Entry{entry("10.0.0.0/8", hop(1)), entry("2001:db8::/32", hop(2))}
	for _, a := range append([]api.Addr{at("9.255.255.255"), at("11.0.0.0"), at("0.0.0.0"), at("::"), at("::a00:1"), at("2001:db7::1"), at("2001:db9::")}, wrongAddrs...) {
		expectNoLook(t, l, a)
		expectNoLook(t, nil, a)
		expectNoLook(t, []api.Entry{}, a)
	}
	expectLook(t, l, "10.0.0.0", hop(1))
	expectLook(t, l, "10.255.255.255", hop(1))
	expectLook(t, l, "2001:db8:ffff:ffff:ffff:ffff:ffff:ffff", hop(2))
}

// TestLookOfWrong: what is no address has no hop, though prefixes hold all addresses.
func TestLookOfWrong(t *testing.T) {
	l := []api.Entry{entry("0.0.0.0/0", hop(1)), entry("::/0", hop(2)), entry("10.0.0.1/32", hop(3))}
	for _, a := range wrongAddrs {
		expectNoLook(t, l, a)
	}
}

// TestLookInAnyOrder: one that several prefixes hold, whatever the order of the entries.
func TestLookInAnyOrder(t *testing.T) {
	l := []api.Entry{entry("0.0.0.0/0", hop(1)), entry("10.0.0.0/8", hop(2)), entry("10.1.0.0/16", hop(3)), entry("10.1.2.3/32", nowhere), entry("11.0.0.0/8", hop(5)), entry("::/0", hop(6)), entry("10.0.0.0/15", hop(7))}
	permutations(len(l), func(order []int) {
		var m []api.Entry
		for _, i := range order {
			m = append(m, l[i])
		}
		for a, want := range map[string]api.Hop{"10.1.2.3": nowhere, "10.1.2.4": hop(3), "10.0.0.1": hop(7), "10.2.0.1": hop(2), "11.0.0.1": hop(5), "12.0.0.1": hop(1), "::a01:203": hop(6)} {
			expectLook(t, m, a, want)
		}
	})
}

// permutations calls f with each order of the numbers below n.
func permutations(n int, f func([]int)) {
	var grow func(order []int)
	grow = func(order []int) {
		if len(order) == n {
			f(order)
			return
		}
		for i := range n {
			if !slices.Contains(order, i) {
				grow(append(slices.Clip(order), i))
			}
		}
	}
	grow(nil)
}

// TestLookOfTwo: of two entries for the same prefix, the first one, wherever they stand.
func TestLookOfTwo(t *testing.T) {
	x, y, all, more := entry("10.0.0.0/8", hop(1)), entry("10.0.0.0/8", hop(2)), entry("0.0.0.0/0", hop(3)), entry("10.0.0.0/9", hop(4))
	for _, l := range [][]api.Entry{{x, y}, {x, x, y}, {all, x, y}, {x, all, y}, {x, y, all}, {more, x, y}, {x, more, y}, {x, y, more}, {all, all, x, more, y, y}} {
		expectLook(t, l, "10.200.0.1", hop(1))
		m := slices.Clone(l)
		for i, e := range m {
			if e.Prefix == x.Prefix {
				m[i].Hop.Port = 3 - e.Hop.Port
			}
		}
		expectLook(t, m, "10.200.0.1", hop(2))
	}
	// Also where the hop is the zero one.
	expectLook(t, []api.Entry{{Prefix: pre("10.0.0.0/8")}, x}, "10.0.0.1", api.Hop{})
}

// TestLookOfWrongPrefixes: an entry whose prefix is not valid holds no address.
func TestLookOfWrongPrefixes(t *testing.T) {
	for _, p := range noPrefixes {
		wrong := api.Entry{Prefix: p, Hop: hop(1)}
		for _, a := range []string{"0.0.0.0", "10.0.0.0", "10.0.0.1", "::", "::1", "2001:db8::", "2001:db8::1"} {
			expectNoLook(t, []api.Entry{wrong}, at(a))
			expectLook(t, []api.Entry{wrong, entry("0.0.0.0/0", hop(2)), entry("::/0", hop(2)), wrong}, a, hop(2))
		}
	}
}

// TestLookTellsTheHop: all fields of it, whatever they are.
func TestLookTellsTheHop(t *testing.T) {
	for _, h := range []api.Hop{{}, {Away: true}, {Port: -5}, {Port: 9, Via: at("fe80::1"), Away: true}, {Via: api.Addr{Hi: 7, Lo: 8}}} {
		expectLook(t, []api.Entry{entry("0.0.0.0/0", hop(1)), entry("10.0.0.0/8", h)}, "10.0.0.1", h)
	}
	if h, ok := resolve.Look(nil, api.Addr{}); h != (api.Hop{}) || ok {
		t.Errorf("U2: Look(nil) is %v %t", h, ok)
	}
}
