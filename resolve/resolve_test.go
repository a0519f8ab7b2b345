package resolve_test

import (
	"fmt"
	"math"
	"slices"
	"strings"
	"testing"

	"crossway/addr"
	"crossway/api"
	"crossway/iface"
	"crossway/prefix"
	"crossway/resolve"
	"crossway/rib"
)

// at is the address that a text is.
func at(s string) api.Addr {
	a, e := addr.Parse(s)
	if e != api.OK {
		panic(s)
	}
	return a
}

// pre is the prefix that a text is.
func pre(s string) api.Prefix {
	p, e := prefix.Parse(s)
	if e != api.OK {
		panic(s)
	}
	return p
}

// away, by, near and via are a path of each kind, of the Proto 1: away, by a port, by a port
// to a neighbour, and by a neighbour.
func away() api.Path                   { return api.Path{Proto: 1, Away: true} }
func by(port int) api.Path             { return api.Path{Proto: 1, Port: port} }
func near(port int, a string) api.Path { return api.Path{Proto: 1, Port: port, Via: at(a)} }
func via(a string) api.Path            { return api.Path{Proto: 1, Via: at(a)} }

// of is a path with another Proto.
func of(proto int, x api.Path) api.Path {
	x.Proto = proto
	return x
}

// hop is the hop by a port, to a neighbour if there is a text.
func hop(port int, text ...string) api.Hop {
	h := api.Hop{Port: port}
	for _, a := range text {
		h.Via = at(a)
	}
	return h
}

// nowhere is the hop of what is away.
var nowhere = api.Hop{Away: true}

// noPrefixes are no valid prefixes; most have the address, or the bits, of a valid one.
var noPrefixes = []api.Prefix{
	{Addr: at("10.0.0.1"), Bits: 8}, {Addr: at("10.0.0.0"), Bits: 6}, {Addr: at("10.0.0.0"), Bits: 0}, {Addr: at("10.0.0.0"), Bits: 33}, {Addr: at("10.0.0.0"), Bits: 128},
	{Addr: at("0.0.0.0"), Bits: -1}, {Addr: at("0.0.0.0"), Bits: 33}, {Addr: at("0.0.0.0"), Bits: math.MinInt}, {Addr: at("0.0.0.0"), Bits: math.MaxInt}, {Addr: at("10.0.0.0"), Bits: 1<<32 + 8},
	{Addr: at("::"), Bits: -1}, {Addr: at("::"), Bits: 129}, {Addr: at("::1"), Bits: 0}, {Addr: at("2001:db8::1"), Bits: 32}, {Addr: at("2001:db8::"), Bits: 28},
	{Addr: api.Addr{Lo: 10<<24 + 1<<32}, Bits: 8}, {Addr: api.Addr{Hi: 1, Lo: 10 << 24}, Bits: 8}, {Addr: api.Addr{Hi: 1 << 63}, Bits: 0}, {Addr: api.Addr{Lo: math.MaxUint64}, Bits: 32},
}

// wrongAddrs are no valid addresses; some have the numbers of valid ones, and more.
var wrongAddrs = []api.Addr{
	{Lo: 1 << 32}, {Lo: 10<<24 + 1 + 1<<32}, {Lo: 1 << 63}, {Lo: math.MaxUint64}, {Hi: 1}, {Hi: 1, Lo: 10<<24 + 1}, {Hi: 0x20010db8 << 32, Lo: 1}, {Hi: math.MaxUint64, Lo: math.MaxUint64},
}

// ports is a set with a port for each letter: u is up, d is down, w is down and was up.
func ports(t *testing.T, letters string) *iface.Set {
	t.Helper()
	s := iface.New()
	for i, c := range letters {
		n, e := s.Add("p"+string(rune('0'+i)), api.Mac(2*i+2), 1500)
		if n != i+1 || e != api.OK {
			t.Fatalf("Add returns %d %d", n, e)
		}
		if c != 'd' {
			turn(t, s, n, true)
		}
		if c == 'w' {
			turn(t, s, n, false)
		}
	}
	return s
}

func turn(t *testing.T, s *iface.Set, port int, up bool) {
	t.Helper()
	if e := s.Turn(port, up); e != api.OK {
		t.Fatalf("Turn(%d, %t) is %d", port, up, e)
	}
}

// put puts paths to a prefix.
func put(t *testing.T, r *rib.Rib, p string, l ...api.Path) {
	t.Helper()
	for _, x := range l {
		if e := r.Put(pre(p), x); e != api.OK {
			t.Fatalf("Put(%s, %v) is %d", p, x, e)
		}
	}
}

func drop(t *testing.T, r *rib.Rib, p string, x api.Path) {
	t.Helper()
	if e := r.Drop(pre(p), x); e != api.OK {
		t.Fatalf("Drop(%s, %v) is %d", p, x, e)
	}
}

func expectPath(t *testing.T, r *rib.Rib, s *iface.Set, p string, want api.Path) {
	t.Helper()
	if x, ok := resolve.Path(r, s, pre(p)); x != want || !ok {
		t.Errorf("U1: Path(%s) is %v %t, not %v", p, x, ok, want)
	}
}

func expectNoPath(t *testing.T, r *rib.Rib, s *iface.Set, p api.Prefix) {
	t.Helper()
	if x, ok := resolve.Path(r, s, p); x != (api.Path{}) || ok {
		t.Errorf("U1: Path(%v) is %v %t", p, x, ok)
	}
}

func expectHop(t *testing.T, r *rib.Rib, s *iface.Set, p string, want api.Hop) {
	t.Helper()
	if h, e := resolve.Hop(r, s, pre(p)); h != want || e != api.OK {
		t.Errorf("U1: Hop(%s) is %v %d, not %v", p, h, e, want)
	}
}

// expectNoHop expects an error of Hop, with the zero hop.
func expectNoHop(t *testing.T, r *rib.Rib, s *iface.Set, p api.Prefix, want api.Errno) {
	t.Helper()
	if h, e := resolve.Hop(r, s, p); h != (api.Hop{}) || e != want {
		t.Errorf("U1: Hop(%v) is %v %d, not the error %d", p, h, e, want)
	}
}

func expectNone(t *testing.T, r *rib.Rib, s *iface.Set, p string) {
	t.Helper()
	expectNoHop(t, r, s, pre(p), api.ErrResolveNone)
}

func expectDeep(t *testing.T, r *rib.Rib, s *iface.Set, p string) {
	t.Helper()
	expectNoHop(t, r, s, pre(p), api.ErrResolveDeep)
}

// entry is an entry, of its prefix as a text.
func entry(p string, h api.Hop) api.Entry { return api.Entry{Prefix: pre(p), Hop: h} }

func expectTable(t *testing.T, r *rib.Rib, s *iface.Set, want ...api.Entry) {
	t.Helper()
	if l := resolve.Table(r, s); !slices.Equal(l, want) {
		t.Errorf("U2: Table is %v, not %v", l, want)
	}
}

func expectLook(t *testing.T, l []api.Entry, a string, want api.Hop) {
	t.Helper()
	if h, ok := resolve.Look(l, at(a)); h != want || !ok {
		t.Errorf("U2: Look(%v, %s) is %v %t, not %v", l, a, h, ok, want)
	}
}

func expectNoLook(t *testing.T, l []api.Entry, a api.Addr) {
	t.Helper()
	if h, ok := resolve.Look(l, a); h != (api.Hop{}) || ok {
		t.Errorf("U2: Look(%v, %v) is %v %t", l, a, h, ok)
	}
}

func expectChanges(t *testing.T, old, now []api.Entry, want ...api.Change) {
	t.Helper()
	if l := resolve.Changes(old, now); !slices.Equal(l, want) {
		t.Errorf("U3: Changes(%v, %v) is %v, not %v", old, now, l, want)
	}
}

// expectNumber expects the hops of some entries, and the Nexts of their routes.
func expectNumber(t *testing.T, l []api.Entry, hops []api.Hop, nexts ...int) {
	t.Helper()
	var want []api.Route
	for i, x := range l {
		want = append(want, api.Route{Prefix: x.Prefix, Next: nexts[i]})
	}
	if routes, all := resolve.Number(l); !slices.Equal(routes, want) || !slices.Equal(all, hops) {
		t.Errorf("U3: Number(%v) is %v %v, not %v %v", l, routes, all, want, hops)
	}
}

// tells is all that a rib and a set of ports tell, as text.
func tells(r *rib.Rib, s *iface.Set) string {
	var text strings.Builder
	for _, p := range r.Prefixes() {
		fmt.Fprintln(&text, p, r.Paths(p))
	}
	for n := range 9 {
		p, ok := s.Port(n)
		fmt.Fprintln(&text, p, ok, s.Locals(n), s.Named(p.Name))
	}
	return text.String()
}

// example is the ports and the paths of the chapter's first example.
func example(t *testing.T) (*rib.Rib, *iface.Set) {
	t.Helper()
	r, s := rib.New(), ports(t, "ud")
	if e := s.Put(1, at("10.0.0.1"), 24); e != api.OK {
		t.Fatal(e)
	}
	put(t, r, "10.0.0.0/24", api.Path{Port: 1})
	put(t, r, "20.0.0.0/8", via("10.0.0.9"))
	put(t, r, "30.0.0.0/8", of(2, via("20.1.1.1")))
	put(t, r, "40.0.0.0/8", by(2))
	put(t, r, "50.0.0.0/8", away())
	return r, s
}

// TestExamples are the chapter's.
func TestExamples(t *testing.T) {
	r, s := example(t)
	near := hop(1, "10.0.0.9")
	expectHop(t, r, s, "10.0.0.0/24", hop(1))
	expectHop(t, r, s, "20.0.0.0/8", near)
	expectHop(t, r, s, "30.0.0.0/8", near)
	expectNone(t, r, s, "40.0.0.0/8")
	expectHop(t, r, s, "50.0.0.0/8", nowhere)
	l := resolve.Table(r, s)
	expectTable(t, r, s, entry("10.0.0.0/24", hop(1)), entry("20.0.0.0/8", near), entry("30.0.0.0/8", near), entry("50.0.0.0/8", nowhere))
	expectNumber(t, l, []api.Hop{hop(1), near, nowhere}, 1, 2, 2, 3)

	put(t, r, "60.0.0.0/8", via("60.0.0.1"))
	expectDeep(t, r, s, "60.0.0.0/8")
	expectTable(t, r, s, l...)
}
