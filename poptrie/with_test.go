package poptrie_test

import (
	"slices"
	"testing"

	"crossway/api"
	"crossway/poptrie"
)

func expectWith(t *testing.T, x *poptrie.Table, r api.Route) *poptrie.Table {
	t.Helper()
	y, e := x.With(r)
	if y == nil || e != api.OK {
		t.Fatalf("L3: With(%v) is %v %d", r, y != nil, e)
	}
	return y
}

func expectNoWith(t *testing.T, x *poptrie.Table, r api.Route, want api.Errno) {
	t.Helper()
	if y, e := x.With(r); y != nil || e != want {
		t.Errorf("L3: With(%v) is %v %d, not %d", r, y != nil, e, want)
	}
}

func expectWithout(t *testing.T, x *poptrie.Table, p api.Prefix) *poptrie.Table {
	t.Helper()
	y, e := x.Without(p)
	if y == nil || e != api.OK {
		t.Fatalf("L3: Without(%v) is %v %d", p, y != nil, e)
	}
	return y
}

func expectNoWithout(t *testing.T, x *poptrie.Table, p api.Prefix) {
	t.Helper()
	if y, e := x.Without(p); y != nil || e != api.ErrTrieNone {
		t.Errorf("L3: Without(%v) is %v %d", p, y != nil, e)
	}
}

// TestWithInEachPlace has a new route ahead of, between and behind those of the table.
func TestWithInEachPlace(t *testing.T) {
	all := []api.Route{
		to("0.0.0.0/0", 1), to("10.0.0.0/8", 2), to("10.0.0.0/9", 3), to("10.1.0.0/16", 4), to("255.255.255.255/32", 5),
		to("::/0", 6), to("::/128", 7), to("2001:db8::/32", 8), to("2001:db8::/33", 9), to("ffff::/16", 10),
	}
	for i, r := range all {
		l := slices.Delete(slices.Clone(all), i, i+1)
		x := made(t, l...)
		expectAs(t, expectWith(t, x, r), all)
		expectAs(t, x, l)
		expectAs(t, expectWith(t, made(t), r), []api.Route{r})
	}
}

// TestWithReplaces has a route with a prefix that the table has: as many routes as
// before.
func TestWithReplaces(t *testing.T) {
	all := []api.Route{to("0.0.0.0/0", 1), to("10.0.0.0/8", 2), to("10.0.0.1/32", 3), to("::/0", 4), to("::1/128", 5)}
	x := made(t, all...)
	for i, r := range all {
		for _, next := range []int{r.Next, 1, 77, 65535} {
			l := slices.Clone(all)
			l[i].Next = next
			y := expectWith(t, x, l[i])
			expectAs(t, y, l)
			expectFind(t, y, r.Prefix.Addr, next)
			expectAs(t, x, all)
		}
	}
	expectFind(t, x, at("10.0.0.1"), 3)
}

func TestWithWrongRoutes(t *testing.T) {
	full := made(t, slices.Concat(spread(false, 2048), spread(true, 2048))...)
	for _, x := range []*poptrie.Table{made(t), made(t, to("10.0.0.0/8", 1), to("2001:db8::/32", 2)), full} {
		want := shapeOf(x)
		expectNoWith(t, x, api.Route{}, api.ErrTrieForm)
		for _, p := range wrongPrefixes() {
			expectNoWith(t, x, api.Route{Prefix: p, Next: 1}, api.ErrTrieForm)
		}
		for _, next := range wrongNexts {
			for _, s := range []string{"10.0.0.0/8", "20.0.0.0/8", "2001:db8::/32", "::/0", "1.2.3.4/32", "::1/128"} {
				expectNoWith(t, x, to(s, next), api.ErrTrieForm)
			}
		}
		if !shapeOf(x).isAs(want) {
			t.Errorf("P7: a route that is refused has an effect")
		}
	}
}

// TestWithTooMany has tries with room for no node, for one, and for more.
func TestWithTooMany(t *testing.T) {
	for _, six := range families {
		l := spread(six, 2048)
		x := made(t, l...)
		want := shapeOf(x)
		deeper := l[5].Prefix
		more := api.Route{Prefix: first(deeper.Addr, 19), Next: 4} // one node more
		expectNoWith(t, x, more, api.ErrTrieFull)
		expectNoWith(t, x, api.Route{Prefix: first(from(six, ^uint64(0)), 7), Next: 4}, api.ErrTrieFull)
		expectNoWith(t, x, api.Route{Prefix: first(from(six, ^uint64(0)), width(six)), Next: 4}, api.ErrTrieFull)
		if !shapeOf(x).isAs(want) {
			t.Errorf("P7: a route that is refused has an effect")
		}
		// Such as need no further node are no fault.
		for _, bits := range []int{0, 1, 5, 6, 7, 12, 13, 17} {
			r := api.Route{Prefix: first(deeper.Addr, bits), Next: 4}
			expectAs(t, expectWith(t, x, r), append(slices.Clone(l), r))
		}
		replaced := slices.Clone(l)
		replaced[5].Next = 9
		expectAs(t, expectWith(t, x, replaced[5]), replaced)
		// Nor are such of the other family.
		r := api.Route{Prefix: first(from(!six, 0), 32), Next: 4}
		expectAs(t, expectWith(t, x, r), append(slices.Clone(l), r))

		fewer := made(t, spread(six, 2047)...)
		y := expectWith(t, fewer, more)
		if n := len(y.Nodes(six)); n != 2048 {
			t.Errorf("L3: %d nodes", n)
		}
		expectNoWith(t, y, api.Route{Prefix: first(deeper.Addr, 25), Next: 4}, api.ErrTrieFull)
		expectNoWith(t, fewer, api.Route{Prefix: first(deeper.Addr, 25), Next: 4}, api.ErrTrieFull)
		// What is taken away makes room.
		expectAs(t, expectWith(t, expectWithout(t, y, more.Prefix), more), append(spread(six, 2047), more))
	}
}

func TestWithoutEach(t *testing.T) {
	s := source(30)
	for _, n := range []int{1, 2, 3, 10, 40} {
		all := someRoutes(&s, n)
		x := made(t, all...)
		for i, r := range all {
			l := slices.Delete(slices.Clone(all), i, i+1)
			y := expectWithout(t, x, r.Prefix)
			expectAs(t, y, l)
			expectNoWithout(t, y, r.Prefix)
			expectFind(t, y, r.Prefix.Addr, plainFind(l, r.Prefix.Addr))
		}
		expectAs(t, x, all)
	}
}

// TestWithoutNone has prefixes that the table has no route of, though it has ones that
// hold the same addresses, and prefixes that are not valid.
func TestWithoutNone(t *testing.T) {
	tables := []*poptrie.Table{made(t), made(t, to("10.0.0.0/8", 1), to("10.0.0.0/10", 2), to("2001:db8::/32", 3), to("2001:db8::/34", 4))}
	for _, x := range tables {
		want := shapeOf(x)
		for _, s := range []string{"0.0.0.0/0", "10.0.0.0/7", "10.0.0.0/9", "10.0.0.0/11", "11.0.0.0/8", "9.0.0.0/8", "10.0.0.0/32", "255.255.255.255/32", "::/0", "a00::/8", "2001:db8::/31", "2001:db8::/33", "2001:db8::/128", "ffff::/16"} {
			expectNoWithout(t, x, under(s))
		}
		for _, p := range wrongPrefixes() {
			expectNoWithout(t, x, p)
		}
		if !shapeOf(x).isAs(want) {
			t.Errorf("P7: a prefix that is refused has an effect")
		}
	}
}

// kept is a table with the routes that it is to have for good.
type kept struct {
	x *poptrie.Table
	l []api.Route
}

// without is a list of routes without that of a prefix.
func without(l []api.Route, p api.Prefix) []api.Route {
	return slices.DeleteFunc(slices.Clone(l), func(r api.Route) bool { return r.Prefix == p })
}

// TestTablesDoNotChange has many tables, each made from another one, and none changes
// by what follows.
func TestTablesDoNotChange(t *testing.T) {
	s := source(31)
	all := []kept{{made(t), nil}}
	for range 400 {
		k := all[s.below(len(all))]
		if s.below(3) == 0 && len(k.l) > 0 {
			p := k.l[s.below(len(k.l))].Prefix
			all = append(all, kept{expectWithout(t, k.x, p), without(k.l, p)})
			continue
		}
		r := api.Route{Prefix: somePrefix(&s, k.l), Next: 1 + s.below(4)}
		all = append(all, kept{expectWith(t, k.x, r), append(without(k.l, r.Prefix), r)})
	}
	for _, k := range all {
		expectAs(t, k.x, k.l)
		for _, a := range someAddrs(&s, k.l, 5) {
			expectFind(t, k.x, a, plainFind(k.l, a))
		}
	}
}

// reached makes the table of some routes step by step: others come and go, and Nexts
// are replaced.
func reached(t *testing.T, s *source, l []api.Route) *poptrie.Table {
	t.Helper()
	others := someRoutes(s, s.below(20))
	start := slices.DeleteFunc(others, func(r api.Route) bool { return !slices.Equal(without(l, r.Prefix), l) })
	x := made(t, start...)
	for _, r := range shuffled(s, l) {
		if s.below(3) == 0 {
			x = expectWith(t, x, api.Route{Prefix: r.Prefix, Next: 60000})
		}
		x = expectWith(t, x, r)
		if s.below(4) == 0 {
			x = expectWith(t, expectWithout(t, x, r.Prefix), r)
		}
	}
	for _, r := range shuffled(s, start) {
		x = expectWithout(t, x, r.Prefix)
	}
	return x
}

// TestSameRoutesSameTable has the same routes reached in different ways: the tables are
// the same, node by node.
func TestSameRoutesSameTable(t *testing.T) {
	s := source(32)
	for n := range 60 {
		l := someRoutes(&s, n)
		want := shapeOf(made(t, l...))
		for range 4 {
			if !shapeOf(made(t, shuffled(&s, l)...)).isAs(want) || !shapeOf(reached(t, &s, l)).isAs(want) {
				t.Fatalf("L4: the table hangs on the way in which it was made: %v", l)
			}
		}
		if !shapeOf(made(t, want.routes...)).isAs(want) {
			t.Errorf("L4: New of Routes is another table")
		}
	}
}

// TestNoCallPanics gives all calls what may not be.
func TestNoCallPanics(t *testing.T) {
	s := source(33)
	x := made(t, someRoutes(&s, 60)...)
	want := shapeOf(x)
	for range 20000 {
		a := api.Addr{Six: s.below(2) == 0, Hi: s.next() >> s.below(65), Lo: s.next() >> s.below(65)}
		p := api.Prefix{Addr: a, Bits: int(s.next()) >> s.below(64)}
		if s.below(2) == 0 {
			p.Bits = s.below(140) - 5
		}
		r := api.Route{Prefix: p, Next: int(s.next()) >> s.below(64)}
		x.Find(a)
		x.With(r)
		x.Without(p)
		if y, e := poptrie.New(r, r); y != nil || e != api.ErrTrieForm {
			t.Errorf("L1: New of the same route twice, %v, is %d", r, e)
		}
	}
	if !shapeOf(x).isAs(want) {
		t.Errorf("L3: a table has changed")
	}
}
