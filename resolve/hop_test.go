package resolve_test

import (
	"testing"

	"crossway/api"
	"crossway/prefix"
	"crossway/rib"
)

// TestHopOfEachKind: the hops of paths that need no other ones.
func TestHopOfEachKind(t *testing.T) {
	r, s := rib.New(), ports(t, "uu")
	for p, a := range map[string]string{"0.0.0.0/0": "10.0.0.9", "10.1.2.3/32": "169.254.0.1", "::/0": "2001:db8::9", "2001:db8::1/128": "fe80::1"} {
		put(t, r, p, of(4, away()))
		expectHop(t, r, s, p, nowhere)
		put(t, r, p, of(3, near(2, a)))
		expectHop(t, r, s, p, hop(2, a))
		put(t, r, p, of(2, by(2)))
		expectHop(t, r, s, p, hop(2))
		x := near(1, a)
		x.Metric = 65535
		put(t, r, p, x)
		expectHop(t, r, s, p, hop(1, a))
	}
}

// TestHopOfNeighbour: what the path of the prefix is that holds a neighbour; it may be one
// of no bits, or of all.
func TestHopOfNeighbour(t *testing.T) {
	s := ports(t, "uud")
	for a, l := range map[string][]string{
		"20.1.1.1":    {"20.0.0.0/8", "0.0.0.0/0", "20.1.1.1/32", "20.1.1.0/31"},
		"2001:db8::1": {"2001:db8::/32", "::/0", "2001:db8::1/128", "2001:db8::/127"},
	} {
		p, other := "10.0.0.0/8", "10.0.0.9"
		if at(a).Six {
			p, other = "2001:db9::/32", "fe80::9"
		}
		for _, q := range l {
			r := rib.New()
			put(t, r, p, via(a))
			expectNone(t, r, s, p)
			put(t, r, q, by(3))
			expectNone(t, r, s, p)
			for _, c := range []struct {
				x    api.Path
				want api.Hop
			}{{away(), nowhere}, {by(2), hop(2, a)}, {near(2, other), hop(2, other)}, {by(1), hop(1, a)}, {near(1, other), hop(1, other)}, {near(1, a), hop(1, a)}} {
				put(t, r, q, of(4, c.x))
				expectHop(t, r, s, p, c.want)
				drop(t, r, q, of(4, c.x))
			}
			expectNone(t, r, s, p)
		}
	}
}

// TestHopOfNeighbourThatNoneHolds: prefixes near it, of its own numbers, and of the other
// family, do not hold it.
func TestHopOfNeighbourThatNoneHolds(t *testing.T) {
	r, s := rib.New(), ports(t, "u")
	put(t, r, "10.0.0.0/8", via("20.1.1.1"))
	put(t, r, "2001:db8::/32", via("::1401:102"))
	for _, p := range []string{"20.1.1.0/32", "20.1.1.2/31", "20.2.0.0/16", "21.0.0.0/8", "128.0.0.0/1", "20.1.1.1/32", "::/128", "::1401:101/128", "8000::/1"} {
		if p != "20.1.1.1/32" {
			put(t, r, p, by(1))
		}
	}
	expectNone(t, r, s, "10.0.0.0/8")
	expectNone(t, r, s, "2001:db8::/32")
	put(t, r, "::/0", by(1))
	expectNone(t, r, s, "10.0.0.0/8")
	expectHop(t, r, s, "2001:db8::/32", hop(1, "::1401:102"))
	drop(t, r, "::/0", by(1))
	put(t, r, "0.0.0.0/0", by(1))
	expectHop(t, r, s, "10.0.0.0/8", hop(1, "20.1.1.1"))
	expectNone(t, r, s, "2001:db8::/32")
}

// TestHopOfNeighbourHeldBySeveral: of the prefixes that hold it, the one with the most bits
// that has a path that stands counts; the others do not.
func TestHopOfNeighbourHeldBySeveral(t *testing.T) {
	for a, l := range map[string][]string{
		"20.1.1.1":    {"20.1.1.1/32", "20.1.1.0/24", "20.1.0.0/16", "20.0.0.0/8", "0.0.0.0/0"},
		"2001:db8::1": {"2001:db8::1/128", "2001:db8::/65", "2001:db8::/64", "2001:db8::/32", "::/0"},
	} {
		p := "10.0.0.0/8"
		if at(a).Six {
			p = "2001:db9::/32"
		}
		for stands := range 1 << len(l) {
			r, s := rib.New(), ports(t, "ddddd")
			put(t, r, p, via(a))
			first := 0
			for i := len(l) - 1; i >= 0; i-- {
				put(t, r, l[i], by(i+1))
				if stands>>i&1 == 1 {
					turn(t, s, i+1, true)
					first = i + 1
				}
			}
			if first == 0 {
				expectNone(t, r, s, p)
			} else {
				expectHop(t, r, s, p, hop(first, a))
			}
		}
	}
}

// TestHopOfNeighbourHeldByOneWithoutHop: the first prefix with a path that stands counts
// even if that path leads nowhere, and another prefix's would lead to a port.
func TestHopOfNeighbourHeldByOneWithoutHop(t *testing.T) {
	r, s := rib.New(), ports(t, "u")
	put(t, r, "10.0.0.0/8", via("20.1.1.1"))
	put(t, r, "20.1.0.0/16", via("99.0.0.1"), of(2, by(1)))
	put(t, r, "20.0.0.0/8", by(1))
	expectNone(t, r, s, "10.0.0.0/8")
	put(t, r, "20.1.0.0/16", of(0, via("20.1.0.9")))
	expectDeep(t, r, s, "10.0.0.0/8")
	put(t, r, "20.1.0.0/16", of(2, away()))
	expectDeep(t, r, s, "10.0.0.0/8")
	drop(t, r, "20.1.0.0/16", of(0, via("20.1.0.9")))
	expectNone(t, r, s, "10.0.0.0/8")
	drop(t, r, "20.1.0.0/16", via("99.0.0.1"))
	expectHop(t, r, s, "10.0.0.0/8", nowhere)
}

// TestHopOfNeighbourHeldByThePrefixItself: there is no end, unless another prefix of more
// bits holds it too.
func TestHopOfNeighbourHeldByThePrefixItself(t *testing.T) {
	for p, a := range map[string]string{"60.0.0.0/8": "60.0.0.1", "0.0.0.0/0": "1.2.3.4", "60.0.0.1/32": "60.0.0.1", "::/0": "2001:db8::1", "2001:db8::1/128": "2001:db8::1"} {
		r, s := rib.New(), ports(t, "ud")
		put(t, r, p, via(a))
		expectDeep(t, r, s, p)
		put(t, r, p, of(2, by(1)))
		expectDeep(t, r, s, p)
		put(t, r, p, of(0, by(2)))
		expectDeep(t, r, s, p)
		turn(t, s, 2, true)
		expectHop(t, r, s, p, hop(2))
		turn(t, s, 2, false)
		full := api.Prefix{Addr: at(a), Bits: 32}
		if full.Addr.Six {
			full.Bits = 128
		}
		if text := prefix.Print(full); text != p {
			put(t, r, text, by(2), of(3, by(1)))
			expectHop(t, r, s, p, hop(1, a))
			turn(t, s, 1, false)
			expectDeep(t, r, s, p)
		}
	}
}

// TestHopOfPrefixesInEachOther: two, and three, whose neighbours lie in each other's.
func TestHopOfPrefixesInEachOther(t *testing.T) {
	r, s := rib.New(), ports(t, "d")
	put(t, r, "10.0.0.0/8", via("20.0.0.1"))
	put(t, r, "20.0.0.0/8", via("10.0.0.1"), of(2, by(1)))
	put(t, r, "30.0.0.0/8", via("20.0.0.2"))
	put(t, r, "2001:db8::/32", via("2001:db9::1"))
	put(t, r, "2001:db9::/32", via("2001:dba::1"))
	put(t, r, "2001:dba::/32", via("2001:db8::1"))
	for _, p := range []string{"10.0.0.0/8", "20.0.0.0/8", "30.0.0.0/8", "2001:db8::/32", "2001:db9::/32", "2001:dba::/32"} {
		expectDeep(t, r, s, p)
	}
	turn(t, s, 1, true)
	expectDeep(t, r, s, "10.0.0.0/8")
	put(t, r, "20.0.0.0/8", of(0, by(1)))
	expectHop(t, r, s, "10.0.0.0/8", hop(1, "20.0.0.1"))
	expectHop(t, r, s, "20.0.0.0/8", hop(1))
	expectHop(t, r, s, "30.0.0.0/8", hop(1, "20.0.0.2"))
}

// inChain is the prefix of the number i of a chain, and heldBy an address that it holds.
func inChain(six bool, i int) api.Prefix {
	p, _ := prefix.Of(heldBy(six, i), 16)
	return p
}

func heldBy(six bool, i int) api.Addr {
	if six {
		return api.Addr{Six: true, Hi: 0x2001<<48 + uint64(i)<<48, Lo: 9}
	}
	return api.Addr{Lo: uint64(100<<24 + i<<16 + 9)}
}

// chain is a rib with n prefixes, each of which depends on a neighbour that the next one
// holds; last is the path of the prefix behind them, if it is one.
func chain(t *testing.T, six bool, n int, last api.Path) *rib.Rib {
	t.Helper()
	r := rib.New()
	for i := range n {
		put(t, r, prefix.Print(inChain(six, i)), api.Path{Proto: i % 5, Via: heldBy(six, i+1)})
	}
	if last != (api.Path{}) {
		put(t, r, prefix.Print(inChain(six, n)), last)
	}
	return r
}

// TestHopOfChains: chains of some neighbours; the ninth one is reached in those of nine and
// more, and whether a prefix holds it does not matter.
func TestHopOfChains(t *testing.T) {
	s := ports(t, "ud")
	for _, six := range []bool{false, true} {
		first, other := prefix.Print(inChain(six, 0)), "10.0.0.9"
		if six {
			other = "fe80::9"
		}
		for n := 1; n <= 20; n++ {
			for want, last := range map[api.Hop]api.Path{{Port: 1, Via: heldBy(six, n)}: by(1), hop(1, other): near(1, other), nowhere: away()} {
				r := chain(t, six, n, last)
				if n <= 8 {
					expectHop(t, r, s, first, want)
				} else {
					expectDeep(t, r, s, first)
				}
			}
			for _, last := range []api.Path{{}, by(2), by(3), near(2, other)} {
				r := chain(t, six, n, last)
				if n <= 8 {
					expectNone(t, r, s, first)
				} else {
					expectDeep(t, r, s, first)
				}
			}
		}
	}
}

// TestHopWithinAChain: the same chain, from each of its prefixes on.
func TestHopWithinAChain(t *testing.T) {
	s := ports(t, "u")
	r := chain(t, false, 30, by(1))
	for i := range 30 {
		p := prefix.Print(inChain(false, i))
		if i >= 30-8 {
			expectHop(t, r, s, p, api.Hop{Port: 1, Via: heldBy(false, 30)})
		} else {
			expectDeep(t, r, s, p)
		}
	}
	expectHop(t, r, s, prefix.Print(inChain(false, 30)), hop(1))
}

// TestHopOfOnePrefixReachedTwice: neighbours count, not prefixes: one whose prefix was
// passed already, by another address, is reached like any other.
func TestHopOfOnePrefixReachedTwice(t *testing.T) {
	r, s := rib.New(), ports(t, "u")
	put(t, r, "10.0.0.0/8", via("20.0.0.1"))
	put(t, r, "20.0.0.0/8", via("10.1.0.1"))
	put(t, r, "10.1.0.0/16", via("20.1.0.1"))
	put(t, r, "20.1.0.0/16", by(1))
	expectHop(t, r, s, "10.0.0.0/8", hop(1, "20.1.0.1"))
	expectHop(t, r, s, "20.0.0.0/8", hop(1, "20.1.0.1"))
}
