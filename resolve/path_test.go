package resolve_test

import (
	"math"
	"testing"

	"crossway/api"
	"crossway/resolve"
	"crossway/rib"
)

// TestPathOfNone: prefixes without a path, though others have one that hold them, or are
// held by them, or have the same address.
func TestPathOfNone(t *testing.T) {
	s := ports(t, "u")
	for _, p := range []string{"0.0.0.0/0", "10.0.0.0/8", "::/0", "::/128"} {
		expectNoPath(t, rib.New(), s, pre(p))
		expectNone(t, rib.New(), s, p)
	}
	r := rib.New()
	put(t, r, "10.0.0.0/8", by(1))
	put(t, r, "2001:db8::/32", by(1))
	for _, p := range []string{"0.0.0.0/0", "10.0.0.0/7", "10.0.0.0/9", "10.128.0.0/9", "10.0.0.0/32", "11.0.0.0/8", "::/0", "2001:db8::/31", "2001:db8::/33", "2001:db9::/32", "::a00:0/104"} {
		expectNoPath(t, r, s, pre(p))
		expectNone(t, r, s, p)
	}
}

// TestPathOfWrong: what is no valid prefix has no path.
func TestPathOfWrong(t *testing.T) {
	r, s := rib.New(), ports(t, "u")
	for _, p := range []string{"0.0.0.0/0", "10.0.0.0/8", "0.0.0.0/32", "::/0", "2001:db8::/32"} {
		put(t, r, p, by(1))
	}
	for _, p := range noPrefixes {
		expectNoPath(t, r, s, p)
		expectNoHop(t, r, s, p, api.ErrResolveNone)
	}
}

// TestPathStands: which paths stand, for prefixes of both families, of no bits and of all.
func TestPathStands(t *testing.T) {
	s := ports(t, "udwu")
	for p, a := range map[string]string{
		"0.0.0.0/0": "10.0.0.9", "10.0.0.0/8": "192.168.0.1", "10.1.2.3/32": "10.1.2.3", "255.255.255.255/32": "1.1.1.1",
		"::/0": "2001:db8::9", "2001:db8::/32": "2001:db8::9", "2001:db8::1/128": "2001:db8::1", "ffff::/16": "1::",
	} {
		for _, x := range []api.Path{away(), by(1), near(1, a), by(4), near(4, a), via(a), of(0, via(a)), of(4, by(1)), of(2, away())} {
			r := rib.New()
			put(t, r, p, x)
			expectPath(t, r, s, p, x)
		}
		for _, port := range []int{2, 3, 5, 6, 7, 8} {
			r := rib.New()
			put(t, r, p, by(port), near(port, a))
			expectNoPath(t, r, s, pre(p))
			expectNone(t, r, s, p)
		}
	}
	r := rib.New()
	put(t, r, "::/0", near(1, "fe80::1"))
	expectPath(t, r, s, "::/0", near(1, "fe80::1"))
	put(t, r, "0.0.0.0/0", near(2, "169.254.0.1"))
	expectNoPath(t, r, s, pre("0.0.0.0/0"))
}

// TestPathIsTheBestThatStands: with unlike ones of four paths standing, the best one of
// these is the path; its Metric, and its Proto, are told.
func TestPathIsTheBestThatStands(t *testing.T) {
	l := []api.Path{{Proto: 0, Metric: 70, Port: 3}, {Proto: 1, Metric: 5, Port: 1, Via: at("10.0.0.9")}, {Proto: 1, Metric: 6, Port: 2}, {Proto: 3, Metric: 1, Port: 4}}
	r := rib.New()
	for _, i := range []int{2, 0, 3, 1} {
		put(t, r, "10.0.0.0/8", l[i])
	}
	for up := range 16 {
		s := ports(t, "dddd")
		var want *api.Path
		for i := len(l) - 1; i >= 0; i-- {
			if up>>i&1 == 1 {
				turn(t, s, l[i].Port, true)
				want = &l[i]
			}
		}
		if want == nil {
			expectNoPath(t, r, s, pre("10.0.0.0/8"))
			expectNone(t, r, s, "10.0.0.0/8")
			continue
		}
		expectPath(t, r, s, "10.0.0.0/8", *want)
		expectHop(t, r, s, "10.0.0.0/8", api.Hop{Port: want.Port, Via: want.Via})
	}
}

// TestPathBehindOneThatDoesNotStand: the best path does not stand, and another one that is
// away, or by a neighbour, does; they stand whatever the ports are.
func TestPathBehindOneThatDoesNotStand(t *testing.T) {
	for _, letters := range []string{"", "d", "w", "ud"} {
		r, s := rib.New(), ports(t, letters)
		put(t, r, "10.0.0.0/8", of(0, by(8)), by(2), of(3, away()))
		expectPath(t, r, s, "10.0.0.0/8", of(3, away()))
		expectHop(t, r, s, "10.0.0.0/8", nowhere)
		put(t, r, "10.0.0.0/8", of(2, via("10.0.0.1")))
		expectPath(t, r, s, "10.0.0.0/8", of(2, via("10.0.0.1")))
		expectDeep(t, r, s, "10.0.0.0/8")
	}
}

// TestPathWhileAPortTurns: a path stands as long as its port is up, also one whose port was
// added behind the path.
func TestPathWhileAPortTurns(t *testing.T) {
	r, s := rib.New(), ports(t, "d")
	put(t, r, "10.0.0.0/8", by(1), near(2, "10.0.0.1"))
	for range 3 {
		expectNoPath(t, r, s, pre("10.0.0.0/8"))
		turn(t, s, 1, true)
		expectPath(t, r, s, "10.0.0.0/8", by(1))
		turn(t, s, 1, true)
		expectPath(t, r, s, "10.0.0.0/8", by(1))
		turn(t, s, 1, false)
	}
	if n, e := s.Add("x", 8, 68); n != 2 || e != api.OK {
		t.Fatal(n, e)
	}
	expectNoPath(t, r, s, pre("10.0.0.0/8"))
	turn(t, s, 2, true)
	expectPath(t, r, s, "10.0.0.0/8", near(2, "10.0.0.1"))
	turn(t, s, 1, true)
	expectPath(t, r, s, "10.0.0.0/8", by(1))
	drop(t, r, "10.0.0.0/8", by(1))
	expectPath(t, r, s, "10.0.0.0/8", near(2, "10.0.0.1"))
	drop(t, r, "10.0.0.0/8", near(2, "10.0.0.1"))
	expectNoPath(t, r, s, pre("10.0.0.0/8"))
}

// TestPathOfOneIndependentOfOthers: the path of a prefix depends on its own paths alone, not
// on whether their neighbours can be reached.
func TestPathOfOneIndependentOfOthers(t *testing.T) {
	r, s := rib.New(), ports(t, "u")
	put(t, r, "10.0.0.0/8", via("99.0.0.1"), of(2, by(1)))
	expectPath(t, r, s, "10.0.0.0/8", via("99.0.0.1"))
	// So that there is no hop, although the other path has one.
	expectNone(t, r, s, "10.0.0.0/8")
	put(t, r, "99.0.0.0/8", by(7))
	expectPath(t, r, s, "10.0.0.0/8", via("99.0.0.1"))
	expectNone(t, r, s, "10.0.0.0/8")
}

// TestWithout: without a rib, or without ports, no call panics.
func TestWithout(t *testing.T) {
	r, s := example(t)
	for _, p := range append([]api.Prefix{pre("10.0.0.0/24"), pre("20.0.0.0/8"), pre("::/0"), {Bits: math.MinInt}}, noPrefixes...) {
		expectNoPath(t, nil, s, p)
		expectNoPath(t, nil, nil, p)
		expectNoPath(t, r, nil, p)
		expectNoHop(t, nil, s, p, api.ErrResolveNone)
		expectNoHop(t, r, nil, p, api.ErrResolveNone)
	}
	expectTable(t, nil, s)
	expectTable(t, r, nil)
	if l := resolve.Table(nil, nil); len(l) != 0 {
		t.Errorf("U2: Table is %v", l)
	}
}
