package rib_test

import (
	"math"
	"slices"
	"testing"

	"crossway/api"
	"crossway/rib"
)

// via is an address, and which family's prefixes it is a neighbour for: 4, 6, or, for 0,
// none's; link: only by a port.
type via struct {
	addr   api.Addr
	family int
	link   bool
}

// vias are addresses of every class, and what is none.
var vias = []via{
	{addr: at("10.0.0.1"), family: 4}, {addr: at("10.9.0.1"), family: 4}, {addr: at("0.0.0.1"), family: 4}, {addr: at("1.2.3.4"), family: 4}, {addr: at("126.255.255.255"), family: 4}, {addr: at("128.0.0.0"), family: 4},
	{addr: at("169.253.255.255"), family: 4}, {addr: at("169.255.0.0"), family: 4}, {addr: at("223.255.255.255"), family: 4}, {addr: at("240.0.0.0"), family: 4}, {addr: at("255.255.255.254"), family: 4},
	{addr: at("169.254.0.0"), family: 4, link: true}, {addr: at("169.254.0.1"), family: 4, link: true}, {addr: at("169.254.255.255"), family: 4, link: true},
	{addr: at("127.0.0.0")}, {addr: at("127.0.0.1")}, {addr: at("127.255.255.255")}, {addr: at("224.0.0.0")}, {addr: at("224.0.0.5")}, {addr: at("239.255.255.255")}, {addr: at("255.255.255.255")},
	{addr: at("2001:db8::1"), family: 6}, {addr: at("::2"), family: 6}, {addr: at("::a00:1"), family: 6}, {addr: at("::ffff:a00:1"), family: 6}, {addr: at("fe7f:ffff::1"), family: 6}, {addr: at("fec0::"), family: 6}, {addr: at("feff::1"), family: 6}, {addr: at("8000::"), family: 6},
	{addr: at("fe80::"), family: 6, link: true}, {addr: at("fe80::1"), family: 6, link: true}, {addr: at("febf:ffff::1"), family: 6, link: true},
	{addr: at("::")}, {addr: at("::1")}, {addr: at("ff00::")}, {addr: at("ff02::1")}, {addr: at("ffff::1")},
	{addr: api.Addr{Lo: 1 << 32}}, {addr: api.Addr{Lo: 10<<24 + 1 + 1<<32}}, {addr: api.Addr{Hi: 1, Lo: 10<<24 + 1}}, {addr: api.Addr{Hi: 0xfe80 << 48, Lo: 1}}, {addr: api.Addr{Hi: 0x20010db8 << 32, Lo: 1}}, {addr: api.Addr{Hi: 1}}, {addr: api.Addr{Lo: math.MaxUint64}}, {addr: api.Addr{Hi: math.MaxUint64, Lo: math.MaxUint64}},
}

// fits tells whether a path by a port, or without one, may have the address as its Via.
func (v via) fits(family, port int) bool { return v.family == family && (!v.link || port != 0) }

// to is a prefix, and its family; 0: it is not valid.
type to struct {
	prefix api.Prefix
	family int
}

// tos are prefixes of both families, and what is none.
func tos() []to {
	var l []to
	for _, s := range []string{"10.0.0.0/8", "0.0.0.0/0", "10.0.0.1/32", "128.0.0.0/1", "127.0.0.0/8", "224.0.0.0/4", "169.254.0.0/16", "255.255.255.255/32", "0.0.0.0/32"} {
		l = append(l, to{pre(s), 4})
	}
	for _, s := range []string{"2001:db8::/32", "::/0", "2001:db8::1/128", "8000::/1", "::1/128", "ff00::/8", "fe80::/10", "::/128", "0:0:0:1::/64"} {
		l = append(l, to{pre(s), 6})
	}
	for _, p := range noPrefixes {
		l = append(l, to{prefix: p})
	}
	return l
}

var (
	protosNear  = []int{math.MinInt, -1, 0, 1, 2, 3, 4, 5, 255, 256, 1 << 32, math.MaxInt}
	metricsNear = []int{math.MinInt, -65536, -1, 0, 1, 65535, 65536, 1 << 32, math.MaxInt}
	portsNear   = []int{math.MinInt, -8, -1, 0, 1, 2, 8, 9, 16, 1<<32 + 1, math.MaxInt}
)

// expectForm expects that a new rib takes a path, or refuses it as not valid.
func expectForm(t *testing.T, p api.Prefix, x api.Path, valid bool) {
	t.Helper()
	r := rib.New()
	e := r.Put(p, x)
	if !valid && (e != api.ErrRibForm || r.Count() != 0 || len(r.Prefixes()) != 0 || len(r.Paths(p)) != 0) {
		t.Fatalf("Q2: Put(%v, %v) is %d, and then there are %v", p, x, e, r.Paths(p))
	}
	if valid && (e != api.OK || r.Count() != 1 || !slices.Equal(r.Paths(p), []api.Path{x})) {
		t.Fatalf("Q2: Put(%v, %v) is %d, and then there are %v", p, x, e, r.Paths(p))
	}
}

// TestPutVias: each kind of paths with each address, to prefixes of both families and to
// what is no prefix.
func TestPutVias(t *testing.T) {
	for _, p := range tos() {
		for _, v := range vias {
			for _, port := range portsNear {
				x := api.Path{Proto: 1, Port: port, Via: v.addr}
				expectForm(t, p.prefix, x, p.family > 0 && port >= 0 && port <= 8 && v.fits(p.family, port))
				x.Away = true
				expectForm(t, p.prefix, x, false)
			}
		}
	}
}

// TestPutWithoutVia: only by a port, or Away.
func TestPutWithoutVia(t *testing.T) {
	for _, p := range tos() {
		for _, port := range portsNear {
			expectForm(t, p.prefix, api.Path{Proto: 4, Port: port}, p.family > 0 && port >= 1 && port <= 8)
			expectForm(t, p.prefix, api.Path{Proto: 4, Port: port, Away: true}, p.family > 0 && port == 0)
			// The other family's address of zeros is no zero address.
			expectForm(t, p.prefix, api.Path{Proto: 4, Port: port, Via: api.Addr{Six: true}}, false)
			expectForm(t, p.prefix, api.Path{Proto: 4, Port: port, Via: api.Addr{Six: true}, Away: true}, false)
		}
	}
}

// TestPutNumbers: each Proto and each Metric, of each kind of paths.
func TestPutNumbers(t *testing.T) {
	four, six := pre("10.0.0.0/8"), pre("2001:db8::/32")
	for _, proto := range protosNear {
		for _, metric := range metricsNear {
			valid := proto >= 0 && proto <= 4 && metric >= 0 && metric <= 65535
			for _, port := range portsNear {
				by := valid && port >= 1 && port <= 8
				for _, p := range []api.Prefix{four, six} {
					expectForm(t, p, api.Path{Proto: proto, Metric: metric, Port: port}, by)
					expectForm(t, p, api.Path{Proto: proto, Metric: metric, Port: port, Away: true}, valid && port == 0)
				}
				expectForm(t, four, api.Path{Proto: proto, Metric: metric, Port: port, Via: at("10.9.0.1")}, by || valid && port == 0)
				expectForm(t, four, api.Path{Proto: proto, Metric: metric, Port: port, Via: at("169.254.0.1")}, by)
				expectForm(t, six, api.Path{Proto: proto, Metric: metric, Port: port, Via: at("2001:db8::1")}, by || valid && port == 0)
				expectForm(t, six, api.Path{Proto: proto, Metric: metric, Port: port, Via: at("fe80::1")}, by)
			}
		}
	}
}

// TestPutOrder: whatever the order in which they are put, better ones come first, and the
// fifth one is refused.
func TestPutOrder(t *testing.T) {
	fifths := []api.Path{{Proto: 0, Port: 1, Via: at("10.0.0.1")}, {Proto: 1, Via: at("10.9.0.2")}, {Proto: 2, Metric: 7, Via: at("10.9.0.1")}, {Proto: 4, Metric: 65535, Port: 8}, {Proto: 0, Away: true}}
	permutations(4, func(order []int) {
		r := newRib(t)
		var so []int
		for n, i := range order {
			expectPut(t, r, ten, fourWays[i])
			so = append(so, i)
			slices.Sort(so)
			var want []api.Path
			for _, j := range so {
				want = append(want, fourWays[j])
			}
			expectPaths(t, r, ten, want...)
			expectCount(t, r, n+1)
			expectPrefixes(t, r, "10.0.0.0/8")
		}
		for _, x := range fifths {
			expectNoPut(t, r, ten, x, api.ErrRibFull)
		}
	})
}

// permutations calls f with each order of the numbers from 0 to n-1.
func permutations(n int, f func([]int)) {
	var order []int
	var grow func()
	grow = func() {
		if len(order) == n {
			f(order)
			return
		}
		for i := range n {
			if !slices.Contains(order, i) {
				order = append(order, i)
				grow()
				order = order[:len(order)-1]
			}
		}
	}
	grow()
}

// replaced are some paths in their order, with another Metric of one of them.
func replaced(l []api.Path, i, metric int) []api.Path {
	l = slices.Clone(l)
	l[i].Metric = metric
	slices.SortStableFunc(l, func(x, y api.Path) int {
		if rank(x) < rank(y) {
			return -1
		}
		return 1
	})
	return l
}

// TestPutSameWay: a path that is the same way takes the other one's place, with a lesser,
// the same and a greater Metric, also when the prefix has four paths.
func TestPutSameWay(t *testing.T) {
	for n := 1; n <= 4; n++ {
		for i := range n {
			for _, metric := range []int{0, 1, 6, 7, 8, 9, 10, 65535} {
				r := newRib(t)
				for _, x := range fourWays[:n] {
					expectPut(t, r, ten, x)
				}
				x := fourWays[i]
				x.Metric = metric
				expectPut(t, r, ten, x)
				expectPaths(t, r, ten, replaced(fourWays[:n], i, metric)...)
				expectCount(t, r, n)
				expectPut(t, r, ten, fourWays[i])
				expectPaths(t, r, ten, fourWays[:n]...)
				expectPut(t, r, ten, fourWays[i])
				expectPaths(t, r, ten, fourWays[:n]...)
			}
		}
	}
}

// TestPutSameWayMoves: with another Metric a path comes to another place among those of
// the same Proto.
func TestPutSameWayMoves(t *testing.T) {
	r := newRib(t)
	way := func(port, metric int) api.Path { return api.Path{Proto: 3, Metric: metric, Port: port} }
	for port := 1; port <= 4; port++ {
		expectPut(t, r, ten, way(port, 10*port))
	}
	expectPut(t, r, ten, way(1, 25))
	expectPaths(t, r, ten, way(2, 20), way(1, 25), way(3, 30), way(4, 40))
	expectPut(t, r, ten, way(4, 0))
	expectPaths(t, r, ten, way(4, 0), way(2, 20), way(1, 25), way(3, 30))
	expectPut(t, r, ten, way(2, 65535))
	expectPaths(t, r, ten, way(4, 0), way(1, 25), way(3, 30), way(2, 65535))
	expectPut(t, r, ten, way(3, 25))
	expectPaths(t, r, ten, way(4, 0), way(1, 25), way(3, 25), way(2, 65535))
	expectPut(t, r, ten, way(4, 25))
	expectPaths(t, r, ten, way(1, 25), way(3, 25), way(4, 25), way(2, 65535))
}

// TestPutOtherWays: paths that differ in one field other than Metric are not the same way.
func TestPutOtherWays(t *testing.T) {
	six := pre("2001:db8::/32")
	x := api.Path{Proto: 1, Metric: 5, Port: 1, Via: at("2001:db8::1")}
	others := []api.Path{
		{Proto: 2, Metric: 5, Port: 1, Via: at("2001:db8::1")}, {Proto: 1, Metric: 5, Port: 2, Via: at("2001:db8::1")}, {Proto: 1, Metric: 5, Port: 0, Via: at("2001:db8::1")},
		{Proto: 1, Metric: 5, Port: 1, Via: at("2001:db8::2")}, {Proto: 1, Metric: 5, Port: 1, Via: at("2001:db9::1")}, {Proto: 1, Metric: 5, Port: 1}, {Proto: 1, Metric: 5, Away: true},
	}
	for _, y := range others {
		r := newRib(t)
		expectPut(t, r, six, x)
		expectNoDrop(t, r, six, y)
		expectPut(t, r, six, y)
		expectCount(t, r, 2)
		expectDrop(t, r, six, x)
		expectPaths(t, r, six, y)
	}
}

// TestPutFull: the ninety-first prefix is refused, while those that have paths may have
// more, and others in their place.
func TestPutFull(t *testing.T) {
	l := ninety()
	r := ninetieth(t)
	others := []api.Prefix{pre("10.0.0.0/9"), pre("0.0.0.0/1"), pre("10.99.0.0/16"), pre("255.255.255.255/32"), pre("::/128"), pre("::/1"), pre("2001:db8::/33"), pre("fe80::/64")}
	for _, p := range others {
		expectNoPut(t, r, p, api.Path{Proto: 1, Port: 1}, api.ErrRibFull)
		expectNoPut(t, r, p, api.Path{Away: true}, api.ErrRibFull)
	}
	for _, p := range l {
		expectPut(t, r, p, api.Path{Proto: 1, Metric: 3, Port: 1})
		expectPaths(t, r, p, api.Path{Proto: 1, Metric: 3, Port: 1})
		expectPut(t, r, p, api.Path{Proto: 1, Port: 1})
	}
	expectCount(t, r, 90)
	for n := 2; n <= 4; n++ {
		for _, p := range l {
			expectPut(t, r, p, api.Path{Proto: 1, Port: n})
		}
		expectCount(t, r, 90*n)
	}
	for i, p := range l {
		expectNoPut(t, r, p, api.Path{Proto: 1, Port: 5}, api.ErrRibFull)
		// The same way, when each prefix has four paths, and ninety have some.
		expectPut(t, r, p, api.Path{Proto: 1, Metric: i, Port: 4})
		expectPut(t, r, p, api.Path{Proto: 1, Port: 4})
	}
	for _, p := range others {
		expectNoPut(t, r, p, api.Path{Proto: 1, Port: 1}, api.ErrRibFull)
	}
	expectCount(t, r, 360)
}

// TestPutRoom: there is room for another prefix as soon as one has no path any more.
func TestPutRoom(t *testing.T) {
	l, other := ninety(), pre("99.0.0.0/8")
	r := ninetieth(t)
	x, y := api.Path{Proto: 1, Port: 1}, api.Path{Proto: 2, Port: 2}
	for i, p := range l {
		expectPut(t, r, p, y)
		expectDrop(t, r, p, x)
		expectNoPut(t, r, other, x, api.ErrRibFull)
		expectDrop(t, r, p, y)
		expectPut(t, r, other, x)
		expectNoPut(t, r, p, x, api.ErrRibFull)
		if i%2 == 0 {
			expectDrop(t, r, other, x)
		} else {
			expectPut(t, r, other, api.Path{Proto: 3, Away: true})
			expectDrop(t, r, other, x)
			expectFlush(t, r, 3, 1)
		}
		expectPut(t, r, p, x)
	}
	// So too when there is room for the fourth path of a prefix again.
	r = fourth(t)
	for i, x := range fourWays {
		expectNoPut(t, r, ten, api.Path{Proto: 2, Port: 5}, api.ErrRibFull)
		expectDrop(t, r, ten, x)
		expectPut(t, r, ten, api.Path{Proto: 2, Port: 5})
		expectNoPut(t, r, ten, x, api.ErrRibFull)
		expectFlush(t, r, 2, 1)
		expectPut(t, r, ten, fourWays[i])
	}
	expectPaths(t, r, ten, fourWays...)
}

// TestPutErrorsInOrder: what is not valid is refused as such wherever there is no room
// too.
func TestPutErrorsInOrder(t *testing.T) {
	wrong := []api.Path{{}, {Proto: 5, Port: 1}, {Proto: -1, Port: 1}, {Proto: 1, Metric: 65536, Port: 1}, {Proto: 1, Metric: -1, Port: 1}, {Proto: 1, Port: 9}, {Proto: 1, Port: 1, Away: true}, {Proto: 1, Port: 1, Via: at("127.0.0.1")}, {Proto: 1, Via: at("169.254.0.1")}}
	r := fourth(t)
	for _, x := range wrong {
		expectNoPut(t, r, ten, x, api.ErrRibForm)
	}
	r = ninetieth(t)
	for _, p := range append(slices.Clone(noPrefixes), pre("99.0.0.0/8"), ten) {
		for _, x := range wrong {
			expectNoPut(t, r, p, x, api.ErrRibForm)
		}
	}
	for _, p := range noPrefixes {
		expectNoPut(t, r, p, api.Path{Proto: 1, Port: 1}, api.ErrRibForm)
	}
	// The same way as another one, but for a Metric that no path may have.
	for _, metric := range []int{math.MinInt, -1, 65536, math.MaxInt} {
		expectNoPut(t, r, ten, api.Path{Proto: 1, Metric: metric, Port: 1}, api.ErrRibForm)
	}
}
