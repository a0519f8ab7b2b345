package rib_test

import (
	"slices"
	"testing"

	"crossway/api"
	"crossway/rib"
)

// nested are prefixes that lie in each other, or have the same address, in their order.
var nested = []string{
	"0.0.0.0/0", "0.0.0.0/1", "0.0.0.0/32", "10.0.0.0/7", "10.0.0.0/8", "10.0.0.0/9", "10.0.0.0/24", "10.0.0.0/31", "10.0.0.0/32", "10.0.0.1/32", "10.128.0.0/9", "11.0.0.0/8", "128.0.0.0/1", "255.255.255.255/32",
	"::/0", "::/1", "::/64", "::/128", "::1/128", "::a00:0/104", "::a00:0/128", "2001:db8::/32", "2001:db8::/64", "2001:db8::/65", "2001:db8::/128", "2001:db8:0:0:8000::/65", "2001:db8:0:1::/64", "8000::/1", "ffff:ffff:ffff:ffff:ffff:ffff:ffff:ffff/128",
}

// nest is a rib in which these have a path each.
func nest(t *testing.T) *rib.Rib {
	t.Helper()
	r := newRib(t)
	for i := range nested {
		expectPut(t, r, pre(nested[i*10%len(nested)]), api.Path{Proto: 1, Port: 1})
	}
	return r
}

func TestPrefixes(t *testing.T) {
	r := nest(t)
	expectPrefixes(t, r, nested...)
	expectCount(t, r, len(nested))
	left := slices.Clone(nested)
	for len(left) > 0 {
		i := len(left) * 5 / 8
		expectDrop(t, r, pre(left[i]), api.Path{Proto: 1, Port: 1})
		left = slices.Delete(left, i, i+1)
		expectPrefixes(t, r, left...)
		expectCount(t, r, len(left))
	}
}

// TestPrefixesNinety: as many as there may be, in their order, each once, however many
// paths they have.
func TestPrefixesNinety(t *testing.T) {
	r := ninetieth(t)
	want := ninety()
	for port := 2; port <= 5; port++ {
		if l := r.Prefixes(); !slices.Equal(l, want) {
			t.Fatalf("Q3: Prefixes() is %v", l)
		}
		for i, p := range want {
			if port <= 4 && i%port == 0 {
				expectPut(t, r, p, api.Path{Proto: 2, Port: port})
			}
		}
	}
}

func TestOver(t *testing.T) {
	r := nest(t)
	for a, want := range map[string][]string{
		"10.0.0.0":                         {"10.0.0.0/32", "10.0.0.0/31", "10.0.0.0/24", "10.0.0.0/9", "10.0.0.0/8", "10.0.0.0/7", "0.0.0.0/1", "0.0.0.0/0"},
		"10.0.0.1":                         {"10.0.0.1/32", "10.0.0.0/31", "10.0.0.0/24", "10.0.0.0/9", "10.0.0.0/8", "10.0.0.0/7", "0.0.0.0/1", "0.0.0.0/0"},
		"10.0.0.2":                         {"10.0.0.0/24", "10.0.0.0/9", "10.0.0.0/8", "10.0.0.0/7", "0.0.0.0/1", "0.0.0.0/0"},
		"10.0.1.0":                         {"10.0.0.0/9", "10.0.0.0/8", "10.0.0.0/7", "0.0.0.0/1", "0.0.0.0/0"},
		"10.128.0.0":                       {"10.128.0.0/9", "10.0.0.0/8", "10.0.0.0/7", "0.0.0.0/1", "0.0.0.0/0"},
		"11.255.255.255":                   {"11.0.0.0/8", "10.0.0.0/7", "0.0.0.0/1", "0.0.0.0/0"},
		"12.0.0.0":                         {"0.0.0.0/1", "0.0.0.0/0"},
		"0.0.0.0":                          {"0.0.0.0/32", "0.0.0.0/1", "0.0.0.0/0"},
		"0.0.0.1":                          {"0.0.0.0/1", "0.0.0.0/0"},
		"127.0.0.1":                        {"0.0.0.0/1", "0.0.0.0/0"},
		"128.0.0.0":                        {"128.0.0.0/1", "0.0.0.0/0"},
		"224.0.0.5":                        {"128.0.0.0/1", "0.0.0.0/0"},
		"255.255.255.255":                  {"255.255.255.255/32", "128.0.0.0/1", "0.0.0.0/0"},
		"::":                               {"::/128", "::/64", "::/1", "::/0"},
		"::1":                              {"::1/128", "::/64", "::/1", "::/0"},
		"::a00:0":                          {"::a00:0/128", "::a00:0/104", "::/64", "::/1", "::/0"},
		"::a00:1":                          {"::a00:0/104", "::/64", "::/1", "::/0"},
		"0:0:0:1::":                        {"::/1", "::/0"},
		"2001:db8::":                       {"2001:db8::/128", "2001:db8::/65", "2001:db8::/64", "2001:db8::/32", "::/1", "::/0"},
		"2001:db8::1":                      {"2001:db8::/65", "2001:db8::/64", "2001:db8::/32", "::/1", "::/0"},
		"2001:db8:0:0:ffff:ffff:ffff:ffff": {"2001:db8:0:0:8000::/65", "2001:db8::/64", "2001:db8::/32", "::/1", "::/0"},
		"2001:db8:0:1::1":                  {"2001:db8:0:1::/64", "2001:db8::/32", "::/1", "::/0"},
		"2001:db9::":                       {"::/1", "::/0"},
		"fe80::1":                          {"8000::/1", "::/0"},
		"ffff:ffff:ffff:ffff:ffff:ffff:ffff:ffff": {"ffff:ffff:ffff:ffff:ffff:ffff:ffff:ffff/128", "8000::/1", "::/0"},
	} {
		expectOver(t, r, a, want...)
	}
	for _, a := range wrongAddrs {
		if l := r.Over(a); len(l) != 0 {
			t.Errorf("Q3: Over(%v) is %v", a, l)
		}
	}
}

// TestOverFew: an address that none holds, one holds, several hold, while they come and go.
func TestOverFew(t *testing.T) {
	r := newRib(t)
	x := api.Path{Proto: 1, Port: 1}
	expectOver(t, r, "10.1.2.3")
	expectPut(t, r, pre("10.0.0.0/8"), x)
	expectPut(t, r, pre("2001:db8::/32"), x)
	expectOver(t, r, "10.1.2.3", "10.0.0.0/8")
	expectOver(t, r, "11.1.2.3")
	expectOver(t, r, "2001:db8::1", "2001:db8::/32")
	expectOver(t, r, "2001:db9::1")
	expectOver(t, r, "::a01:203")
	// A second path of the same prefix makes no second prefix.
	expectPut(t, r, pre("10.0.0.0/8"), api.Path{Away: true})
	expectOver(t, r, "10.1.2.3", "10.0.0.0/8")
	expectPut(t, r, pre("10.1.2.0/24"), x)
	expectPut(t, r, pre("10.1.0.0/16"), x)
	expectOver(t, r, "10.1.2.3", "10.1.2.0/24", "10.1.0.0/16", "10.0.0.0/8")
	expectDrop(t, r, pre("10.0.0.0/8"), x)
	expectDrop(t, r, pre("10.1.0.0/16"), x)
	expectOver(t, r, "10.1.2.3", "10.1.2.0/24", "10.0.0.0/8")
	expectFlush(t, r, 1, 2)
	expectOver(t, r, "10.1.2.3", "10.0.0.0/8")
	expectOver(t, r, "2001:db8::1")
}

// TestPathsOfNone: what has no path, and what is no prefix, though its first bits, or its
// address, are those of one that has paths.
func TestPathsOfNone(t *testing.T) {
	r := nest(t)
	for _, p := range append(slices.Clone(noPrefixes), pre("10.0.0.0/10"), pre("10.0.0.0/30"), pre("0.0.0.0/2"), pre("10.0.0.2/32"), pre("8.0.0.0/6"), pre("::/2"), pre("::/32"), pre("::/8"), pre("2001:db8::/33"), pre("2001:db8::1/128")) {
		if slices.Contains(r.Prefixes(), p) {
			t.Fatalf("Q3: %v has paths", p)
		}
		expectPaths(t, r, p)
	}
}

// TestCount: behind each call the number of paths, not of prefixes.
func TestCount(t *testing.T) {
	r := newRib(t)
	want := 0
	for n, p := range ninety()[:20] {
		for port := 1; port <= 1+n%4; port++ {
			expectPut(t, r, p, api.Path{Proto: port, Port: port})
			want++
			expectCount(t, r, want)
			expectPut(t, r, p, api.Path{Proto: port, Metric: 1, Port: port})
			expectCount(t, r, want)
		}
	}
	for proto, n := range []int{0, 20, 15, 10, 5} {
		expectFlush(t, r, proto, n)
		want -= n
		expectCount(t, r, want)
	}
	expectCount(t, r, 0)
}
