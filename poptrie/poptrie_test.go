package poptrie_test

import (
	"math"
	"slices"
	"testing"

	"crossway/addr"
	"crossway/api"
	"crossway/poptrie"
	"crossway/prefix"
)

// source makes numbers that look like chance, the same ones each time.
type source uint64

func (s *source) next() uint64 {
	*s = *s*6364136223846793005 + 1442695040888963407
	return uint64(*s ^ *s>>29)
}

func (s *source) below(n int) int { return int(s.next() >> 11 % uint64(n)) }

// shuffled is the elements of l in an order that looks like chance.
func shuffled[E any](s *source, l []E) []E {
	l = slices.Clone(l)
	for i := range l {
		j := i + s.below(len(l)-i)
		l[i], l[j] = l[j], l[i]
	}
	return l
}

// families are the values of six.
var families = []bool{false, true}

// width is how many bits an address of a family has.
func width(six bool) int {
	if six {
		return 128
	}
	return 32
}

// at is an address by its text.
func at(s string) api.Addr {
	a, e := addr.Parse(s)
	if e != api.OK {
		panic(s)
	}
	return a
}

// under is a prefix by its text.
func under(s string) api.Prefix {
	p, e := prefix.Parse(s)
	if e != api.OK {
		panic(s)
	}
	return p
}

// to is a route by the text of its prefix.
func to(s string, next int) api.Route { return api.Route{Prefix: under(s), Next: next} }

// first is the prefix of an address's first bits.
func first(a api.Addr, bits int) api.Prefix {
	p, e := prefix.Of(a, bits)
	if e != api.OK {
		panic(bits)
	}
	return p
}

// from is the address of a family whose first 64 bits, or 32, are those of a number.
func from(six bool, n uint64) api.Addr {
	if six {
		return api.Addr{Six: true, Hi: n}
	}
	return api.Addr{Lo: n >> 32}
}

func made(t *testing.T, l ...api.Route) *poptrie.Table {
	t.Helper()
	x, e := poptrie.New(l...)
	if x == nil || e != api.OK {
		t.Fatalf("L1: New of %d routes is %v %d", len(l), x != nil, e)
	}
	return x
}

func expectNoNew(t *testing.T, want api.Errno, l ...api.Route) {
	t.Helper()
	if x, e := poptrie.New(l...); x != nil || e != want {
		t.Errorf("L1: New of %d routes, %v .., is %v %d, not %d", len(l), l[:min(len(l), 3)], x != nil, e, want)
	}
}

func expectFind(t *testing.T, x *poptrie.Table, a api.Addr, want int) {
	t.Helper()
	if n := x.Find(a); n != want {
		t.Errorf("L2: Find(%v %s) is %d, not %d", a, addr.Print(a), n, want)
	}
}

// shape is all that a table says of itself.
type shape struct {
	routes []api.Route
	nodes  [2][]api.Node
	leaves [2][]int
}

func shapeOf(x *poptrie.Table) shape {
	return shape{
		x.Routes(),
		[2][]api.Node{x.Nodes(false), x.Nodes(true)},
		[2][]int{x.Leaves(false), x.Leaves(true)},
	}
}

// isAs is whether two shapes are the same, node by node.
func (s shape) isAs(o shape) bool {
	for i := range families {
		if !slices.Equal(s.nodes[i], o.nodes[i]) || !slices.Equal(s.leaves[i], o.leaves[i]) {
			return false
		}
	}
	return slices.Equal(s.routes, o.routes)
}

// room is routes in memory that goes on behind their length: no call may write there.
func room(l []api.Route) []api.Route {
	whole := slices.Concat(l, slices.Repeat([]api.Route{to("99.0.0.0/8", 99)}, 5))
	return whole[:len(l)]
}

// untouched is whether routes made by room are as they were, with what is behind them.
func untouched(l, want []api.Route) bool {
	for _, r := range l[len(l) : len(l)+5] {
		if r != to("99.0.0.0/8", 99) {
			return false
		}
	}
	return slices.Equal(l, want)
}

// scribble writes into all of a result's memory, the spare capacity too.
func scribble[E any](l []E, x E) {
	l = l[:cap(l)]
	for i := range l {
		l[i] = x
	}
	_ = append(l, x)
}

// wrongAddrs are addresses that are not valid.
var wrongAddrs = []api.Addr{
	{Lo: 1 << 32}, {Lo: 1<<32 | 10<<24}, {Lo: 1 << 63}, {Lo: math.MaxUint64},
	{Hi: 1}, {Hi: 1 << 63}, {Hi: math.MaxUint64}, {Hi: 1, Lo: 10 << 24}, {Hi: math.MaxUint64, Lo: math.MaxUint64},
	{Hi: 0x20010db8 << 32, Lo: 1},
}

// wrongPrefixes are prefixes that are not valid.
func wrongPrefixes() []api.Prefix {
	l := []api.Prefix{
		{Addr: api.Addr{Lo: 1}}, {Addr: api.Addr{Lo: 1}, Bits: 31}, {Addr: api.Addr{Lo: 10<<24 | 1}, Bits: 8},
		{Addr: api.Addr{Lo: 10 << 24}, Bits: 6}, {Addr: api.Addr{Six: true, Lo: 1}}, {Addr: api.Addr{Six: true, Lo: 1}, Bits: 127},
		{Addr: api.Addr{Six: true, Hi: 1}, Bits: 63}, {Addr: api.Addr{Six: true, Hi: 0x20010db8 << 32}, Bits: 28},
	}
	for _, a := range wrongAddrs {
		l = append(l, api.Prefix{Addr: a}, api.Prefix{Addr: a, Bits: 32}, api.Prefix{Addr: a, Bits: 128})
	}
	for _, six := range families {
		for _, n := range []int{math.MinInt, math.MinInt32, -6, -1, width(six) + 1, width(six) + 4, 129, 132, 256, math.MaxInt32, math.MaxInt} {
			l = append(l, api.Prefix{Addr: api.Addr{Six: six}, Bits: n})
		}
	}
	return l
}

// wrongNexts are numbers that are below 1 or above MaxNext.
var wrongNexts = []int{math.MinInt, math.MinInt + 1, math.MinInt32, -65536, -65535, -2, -1, 0, 65536, 65537, 131071, math.MaxInt32, 1 << 32, 1<<32 + 1, 1 << 48, 1<<62 + 1, math.MaxInt}

// goodNexts are numbers of routes.
var goodNexts = []int{1, 2, 3, 255, 256, 32767, 32768, 65534, 65535}

func TestExampleOne(t *testing.T) {
	x := made(t)
	for _, six := range families {
		// The number 1 is the least one that is free when the root's slots are numbered.
		if l := x.Nodes(six); !slices.Equal(l, []api.Node{{Leaves: 1, FirstNode: 1}}) {
			t.Errorf("L1: Nodes(%t) is %v", six, l)
		}
		if l := x.Leaves(six); !slices.Equal(l, []int{0}) {
			t.Errorf("L1: Leaves(%t) is %v", six, l)
		}
	}
	if l := x.Routes(); len(l) != 0 {
		t.Errorf("L1: Routes is %v", l)
	}
	for _, s := range []string{"0.0.0.0", "10.0.0.1", "255.255.255.255", "::", "2001:db8::1", "ffff::", "::ffff"} {
		expectFind(t, x, at(s), 0)
	}
}

func TestExampleTwo(t *testing.T) {
	x := made(t, to("0.0.0.0/0", 7))
	if n, l := x.Nodes(false), x.Leaves(false); !slices.Equal(l, []int{7}) || !slices.Equal(n, []api.Node{{Leaves: 1, FirstNode: 1}}) {
		t.Errorf("L1: Nodes is %v, and Leaves %v", n, l)
	}
	if l := x.Leaves(true); !slices.Equal(l, []int{0}) {
		t.Errorf("L1: Leaves of the other family is %v", l)
	}
	x = made(t, to("128.0.0.0/1", 3))
	if n, l := x.Nodes(false), x.Leaves(false); !slices.Equal(l, []int{0, 3}) || !slices.Equal(n, []api.Node{{Leaves: 1<<32 + 1, FirstNode: 1}}) {
		t.Errorf("L1: Nodes is %v, and Leaves %v", n, l)
	}
	expectFind(t, x, at("200.0.0.0"), 3)
	expectFind(t, x, at("100.0.0.0"), 0)
}

func TestExampleThree(t *testing.T) {
	x := made(t, to("10.0.0.0/8", 1), to("10.1.0.0/16", 2))
	expectFind(t, x, at("10.1.2.3"), 2)
	expectFind(t, x, at("10.2.0.1"), 1)
	// 10.0 is 000010 100000 0000.., and 10.1 is 000010 100000 0001..
	want := []api.Node{
		{Nodes: 1 << 2, Leaves: 1, FirstNode: 1},
		{Nodes: 1 << 32, Leaves: 1 | 1<<33 | 1<<48, FirstNode: 2, FirstLeaf: 1},
		{Leaves: 1 | 1<<4 | 1<<8, FirstNode: 3, FirstLeaf: 4},
	}
	if l := x.Nodes(false); !slices.Equal(l, want) {
		t.Errorf("L1: Nodes is %v, not %v", l, want)
	}
	if l := x.Leaves(false); !slices.Equal(l, []int{0, 0, 1, 0, 1, 2, 1}) {
		t.Errorf("L1: Leaves is %v", l)
	}
}

func TestNewOfWrongPrefixes(t *testing.T) {
	good := []api.Route{to("10.0.0.0/8", 1), to("::/0", 2)}
	for _, p := range wrongPrefixes() {
		wrong := api.Route{Prefix: p, Next: 1}
		expectNoNew(t, api.ErrTrieForm, wrong)
		for i := range len(good) + 1 {
			expectNoNew(t, api.ErrTrieForm, slices.Insert(slices.Clone(good), i, wrong)...)
		}
	}
}

func TestNewOfEachNext(t *testing.T) {
	for _, s := range []string{"0.0.0.0/0", "10.0.0.0/8", "10.0.0.1/32", "::/0", "2001:db8::/32", "::1/128"} {
		for _, next := range wrongNexts {
			expectNoNew(t, api.ErrTrieForm, to(s, next))
			expectNoNew(t, api.ErrTrieForm, to("20.0.0.0/8", 1), to(s, next))
			expectNoNew(t, api.ErrTrieForm, to(s, next), to("20.0.0.0/8", 1))
		}
		for _, next := range goodNexts {
			x := made(t, to(s, next))
			expectFind(t, x, under(s).Addr, next)
			if l := x.Routes(); !slices.Equal(l, []api.Route{to(s, next)}) {
				t.Errorf("L1: Routes is %v", l)
			}
		}
	}
}

// TestNewOfTwice has two routes with the same prefix, with the same Next or another one,
// side by side, and with others ahead, between and behind.
func TestNewOfTwice(t *testing.T) {
	others := []api.Route{to("0.0.0.0/1", 1), to("10.0.0.0/9", 2), to("9.0.0.0/8", 1), to("10.0.0.0/7", 3), to("2001::/16", 4)}
	for _, s := range []string{"0.0.0.0/0", "10.0.0.0/8", "10.0.0.1/32", "::/0", "2001:db8::/32", "::1/128"} {
		for _, next := range []int{5, 6} {
			expectNoNew(t, api.ErrTrieForm, to(s, 5), to(s, next))
			for i := range len(others) + 1 {
				for j := range i + 1 {
					l := slices.Insert(slices.Clone(others), i, to(s, 5))
					expectNoNew(t, api.ErrTrieForm, slices.Insert(l, j, to(s, next))...)
				}
			}
		}
	}
	expectNoNew(t, api.ErrTrieForm, slices.Concat(others, others)...)
	// The same bits are no same prefix: in the other family, or of another length.
	x := made(t, to("0.0.0.0/0", 1), to("::/0", 2), to("0.0.0.0/32", 3), to("::/32", 4), to("0.0.0.0/31", 5))
	if l := x.Routes(); len(l) != 5 {
		t.Errorf("L1: Routes is %v", l)
	}
}

// TestNewWithSeveralFaults has what is no table, and would have too many nodes too.
func TestNewWithSeveralFaults(t *testing.T) {
	for _, six := range families {
		l := spread(six, 2049)
		expectNoNew(t, api.ErrTrieFull, l...)
		for _, wrong := range []api.Route{{}, {Prefix: l[0].Prefix, Next: 65536}, l[0], l[len(l)-1], l[700], {Prefix: api.Prefix{Bits: 33}, Next: 1}} {
			expectNoNew(t, api.ErrTrieForm, append(slices.Clone(l), wrong)...)
			expectNoNew(t, api.ErrTrieForm, slices.Insert(slices.Clone(l), 0, wrong)...)
			expectNoNew(t, api.ErrTrieForm, slices.Insert(slices.Clone(l), 1000, wrong)...)
		}
	}
}

// TestRoutesInOrder has the routes in the order of Less, in whatever order they came.
func TestRoutesInOrder(t *testing.T) {
	want := []api.Route{
		to("0.0.0.0/0", 9), to("0.0.0.0/1", 8), to("0.0.0.0/32", 7), to("0.0.0.1/32", 6), to("10.0.0.0/7", 5), to("10.0.0.0/8", 4),
		to("10.0.0.0/24", 4), to("10.0.1.0/24", 3), to("10.1.0.0/16", 2), to("128.0.0.0/1", 1), to("128.0.0.0/2", 1), to("255.255.255.255/32", 65535),
		to("::/0", 1), to("::/1", 2), to("::/128", 3), to("::1/128", 4), to("0:0:0:1::/64", 5), to("2001:db8::/32", 6), to("2001:db8::/48", 7),
		to("2001:db8::1:0/112", 8), to("2001:db8:1::/48", 9), to("8000::/1", 8), to("ffff:ffff:ffff:ffff:ffff:ffff:ffff:ffff/128", 7),
	}
	s := source(1)
	for range 50 {
		if l := made(t, shuffled(&s, want)...).Routes(); !slices.Equal(l, want) {
			t.Fatalf("L1: Routes is %v, not %v", l, want)
		}
	}
	reversed := slices.Clone(want)
	slices.Reverse(reversed)
	if l := made(t, reversed...).Routes(); !slices.Equal(l, want) {
		t.Errorf("L1: Routes is %v, not %v", l, want)
	}
}

// TestNewKeepsNoArgument writes over what a table was made of.
func TestNewKeepsNoArgument(t *testing.T) {
	s := source(2)
	for n := range 40 {
		l := someRoutes(&s, n)
		arg := room(l)
		x := made(t, arg...)
		if !untouched(arg, l) {
			t.Errorf("R3: New wrote into its argument, or behind it")
		}
		want := shapeOf(x)
		scribble(arg, to("255.0.0.0/8", 77))
		if !shapeOf(x).isAs(want) || !want.isAs(plainShape(l)) {
			t.Errorf("R3: a table changes with the routes that it was made of")
		}
		// Nor what it refuses.
		wrong := append(slices.Clone(l), api.Route{})
		arg = room(wrong)
		expectNoNew(t, api.ErrTrieForm, arg...)
		if !untouched(arg, wrong) {
			t.Errorf("R3: New wrote into an argument that it refused, or behind it")
		}
	}
}

// TestResultsAreNewMemory writes over what was returned.
func TestResultsAreNewMemory(t *testing.T) {
	s := source(3)
	for n := range 40 {
		l := someRoutes(&s, n)
		x := made(t, l...)
		want := shapeOf(x)
		kept := shapeOf(x)
		y, _ := x.With(to("77.0.0.0/8", 77))
		z, _ := x.Without(to("77.0.0.0/8", 77).Prefix)
		changed := shapeOf(y)
		scribble(x.Routes(), to("1.0.0.0/8", 1))
		for _, six := range families {
			scribble(x.Nodes(six), api.Node{Nodes: math.MaxUint64, Leaves: 5, FirstNode: -1, FirstLeaf: -1})
			scribble(x.Leaves(six), -5)
			scribble(y.Nodes(six), api.Node{})
			scribble(y.Leaves(six), -6)
		}
		scribble(y.Routes(), to("2.0.0.0/8", 2))
		if z != nil {
			t.Errorf("L3: Without of a route that is not there returns a table")
		}
		if !shapeOf(x).isAs(want) || !kept.isAs(want) || !shapeOf(y).isAs(changed) {
			t.Fatalf("R3: a result shares memory with a table or another result")
		}
		for _, a := range someAddrs(&s, l, 50) {
			expectFind(t, x, a, plainFind(l, a))
		}
	}
}
