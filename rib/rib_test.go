package rib_test

import (
	"math"
	"slices"
	"testing"

	"crossway/addr"
	"crossway/api"
	"crossway/prefix"
	"crossway/rib"
)

// at is the address that a text is.
func at(s string) api.Addr {
	a, e := addr.Parse(s)
	if e != api.OK {
		panic(s)
	}
	return a
}

// pre is the prefix that a text is.
func pre(s string) api.Prefix {
	p, e := prefix.Parse(s)
	if e != api.OK {
		panic(s)
	}
	return p
}

// noPrefixes are no valid prefixes; most have the address, or the bits, of a valid one.
var noPrefixes = []api.Prefix{
	{Addr: at("10.0.0.1"), Bits: 8}, {Addr: at("10.0.0.0"), Bits: 6}, {Addr: at("10.0.0.0"), Bits: 0}, {Addr: at("10.0.0.0"), Bits: 33}, {Addr: at("10.0.0.0"), Bits: 128},
	{Addr: at("0.0.0.0"), Bits: -1}, {Addr: at("0.0.0.0"), Bits: 33}, {Addr: at("0.0.0.1"), Bits: 31}, {Addr: at("0.0.0.0"), Bits: math.MinInt}, {Addr: at("0.0.0.0"), Bits: math.MaxInt},
	{Addr: at("10.0.0.0"), Bits: 1<<32 + 8}, {Addr: at("10.0.0.0"), Bits: -8}, {Addr: at("10.0.0.1"), Bits: 33},
	{Addr: at("::"), Bits: -1}, {Addr: at("::"), Bits: 129}, {Addr: at("::"), Bits: math.MinInt}, {Addr: at("::"), Bits: math.MaxInt}, {Addr: at("::1"), Bits: 127}, {Addr: at("::1"), Bits: 0},
	{Addr: at("2001:db8::1"), Bits: 32}, {Addr: at("2001:db8::"), Bits: 28}, {Addr: at("2001:db8::"), Bits: 129}, {Addr: at("2001:db8::1"), Bits: 64}, {Addr: at("2001:db8::1"), Bits: 129},
	{Addr: api.Addr{Lo: 10<<24 + 1<<32}, Bits: 8}, {Addr: api.Addr{Hi: 1, Lo: 10 << 24}, Bits: 8}, {Addr: api.Addr{Hi: 1 << 63}, Bits: 0}, {Addr: api.Addr{Hi: 0x20010db8 << 32}, Bits: 32}, {Addr: api.Addr{Lo: math.MaxUint64}, Bits: 32},
}

func expectPut(t *testing.T, r *rib.Rib, p api.Prefix, x api.Path) {
	t.Helper()
	if e := r.Put(p, x); e != api.OK {
		t.Fatalf("Q2: Put(%v, %v) is %d", p, x, e)
	}
}

// expectNoPut expects an error of Put, and that all is as it was.
func expectNoPut(t *testing.T, r *rib.Rib, p api.Prefix, x api.Path, want api.Errno) {
	t.Helper()
	before := tells(r)
	if e := r.Put(p, x); e != want {
		t.Fatalf("Q2: Put(%v, %v) is %d, not %d", p, x, e, want)
	}
	expectTells(t, r, before)
}

func expectDrop(t *testing.T, r *rib.Rib, p api.Prefix, x api.Path) {
	t.Helper()
	if e := r.Drop(p, x); e != api.OK {
		t.Fatalf("Q2: Drop(%v, %v) is %d", p, x, e)
	}
}

// expectNoDrop expects an error of Drop, and that all is as it was.
func expectNoDrop(t *testing.T, r *rib.Rib, p api.Prefix, x api.Path) {
	t.Helper()
	before := tells(r)
	if e := r.Drop(p, x); e != api.ErrRibNone {
		t.Fatalf("Q2: Drop(%v, %v) is %d, not %d", p, x, e, api.ErrRibNone)
	}
	expectTells(t, r, before)
}

// expectFlush expects a number of paths that are removed; if it is 0, all is as it was.
func expectFlush(t *testing.T, r *rib.Rib, proto, want int) {
	t.Helper()
	before, count := tells(r), r.Count()
	if n := r.Flush(proto); n != want {
		t.Fatalf("Q2: Flush(%d) is %d, not %d", proto, n, want)
	}
	expectCount(t, r, count-want)
	if want == 0 {
		expectTells(t, r, before)
	}
}

// expectPaths expects the paths to a prefix, and the best one of them.
func expectPaths(t *testing.T, r *rib.Rib, p api.Prefix, want ...api.Path) {
	t.Helper()
	if l := r.Paths(p); !slices.Equal(l, want) {
		t.Fatalf("Q3: Paths(%v) is %v, not %v", p, l, want)
	}
	var best api.Path
	if len(want) > 0 {
		best = want[0]
	}
	if x, ok := r.Best(p); x != best || ok != (len(want) > 0) {
		t.Fatalf("Q3: Best(%v) is %v %t, not %v", p, x, ok, best)
	}
}

// expectPrefixes expects the prefixes that have a path, as texts.
func expectPrefixes(t *testing.T, r *rib.Rib, want ...string) {
	t.Helper()
	if l := texts(r.Prefixes()); !slices.Equal(l, want) {
		t.Fatalf("Q3: Prefixes() is %v, not %v", l, want)
	}
}

// expectOver expects the prefixes that hold an address, as texts.
func expectOver(t *testing.T, r *rib.Rib, a string, want ...string) {
	t.Helper()
	if l := texts(r.Over(at(a))); !slices.Equal(l, want) {
		t.Fatalf("Q3: Over(%s) is %v, not %v", a, l, want)
	}
}

func expectCount(t *testing.T, r *rib.Rib, want int) {
	t.Helper()
	if n := r.Count(); n != want {
		t.Fatalf("Q3: Count() is %d, not %d", n, want)
	}
}

// texts are prefixes as texts.
func texts(l []api.Prefix) []string {
	var all []string
	for _, p := range l {
		all = append(all, prefix.Print(p))
	}
	return all
}

// newRib is a new rib.
func newRib(t *testing.T) *rib.Rib {
	t.Helper()
	r := rib.New()
	if r == nil {
		t.Fatal("Q1: New returns no rib")
	}
	return r
}

// ten is the prefix, and fourWays are paths to it, better ones first: as many as a prefix
// may have, of three kinds.
var (
	ten      = pre("10.0.0.0/8")
	fourWays = []api.Path{{Proto: 0, Metric: 9, Port: 1}, {Proto: 1, Metric: 7, Via: at("10.9.0.1")}, {Proto: 1, Metric: 7, Port: 2, Via: at("169.254.0.1")}, {Proto: 4, Metric: 1, Away: true}}
)

// fourth is a rib with these.
func fourth(t *testing.T) *rib.Rib {
	t.Helper()
	r := newRib(t)
	for _, i := range []int{2, 0, 3, 1} {
		expectPut(t, r, ten, fourWays[i])
	}
	expectPaths(t, r, ten, fourWays...)
	return r
}

// ninety are as many prefixes as may have paths, of both families, in their order.
func ninety() []api.Prefix {
	l := []api.Prefix{pre("0.0.0.0/0"), pre("10.0.0.0/8")}
	for i := range uint64(43) {
		l = append(l, api.Prefix{Addr: api.Addr{Lo: 10<<24 + (i+1)<<16}, Bits: 16})
	}
	l = append(l, pre("::/0"), pre("2001:db8::/32"))
	for i := range uint64(43) {
		l = append(l, api.Prefix{Addr: api.Addr{Six: true, Hi: 0x20010db8<<32 + i + 1}, Bits: 64})
	}
	return l
}

// ninetieth is a rib in which each of these has a path by the port 1, of the Proto 1.
func ninetieth(t *testing.T) *rib.Rib {
	t.Helper()
	r := newRib(t)
	l := ninety()
	for i := range l {
		expectPut(t, r, l[i*37%len(l)], api.Path{Proto: 1, Port: 1})
	}
	expectCount(t, r, 90)
	return r
}

// TestExamples are the chapter's.
func TestExamples(t *testing.T) {
	r := newRib(t)
	x, y := api.Path{Proto: 3, Metric: 5, Via: at("10.9.0.1")}, api.Path{Proto: 1, Via: at("10.9.0.2")}
	expectPut(t, r, ten, x)
	expectPut(t, r, ten, y)
	expectPaths(t, r, ten, y, x)
	y.Metric = 7
	expectPut(t, r, ten, y)
	expectCount(t, r, 2)
	expectPaths(t, r, ten, y, x)
	expectFlush(t, r, 1, 1)
	expectPaths(t, r, ten, x)

	expectNoPut(t, r, ten, api.Path{Port: 9}, api.ErrRibForm)
	expectNoPut(t, r, ten, api.Path{}, api.ErrRibForm)
	expectNoPut(t, r, pre("::/0"), api.Path{Via: at("fe80::1")}, api.ErrRibForm)
	expectPut(t, r, pre("::/0"), api.Path{Port: 1, Via: at("fe80::1")})
	expectNoDrop(t, r, ten, api.Path{Proto: 1, Via: at("10.9.0.9")})
}

// TestNew: a new rib has no paths.
func TestNew(t *testing.T) {
	r := newRib(t)
	expectCount(t, r, 0)
	expectPrefixes(t, r)
	for _, p := range probePrefixes() {
		expectPaths(t, r, p)
		for _, x := range append(slices.Clone(fourWays), api.Path{}) {
			expectNoDrop(t, r, p, x)
		}
	}
	for _, a := range probeAddrs() {
		if l := r.Over(a); len(l) != 0 {
			t.Errorf("Q3: Over(%v) is %v", a, l)
		}
	}
	for proto := -1; proto <= 6; proto++ {
		expectFlush(t, r, proto, 0)
	}
}
