package iface_test

import (
	"math"
	"slices"
	"testing"

	"crossway/addr"
	"crossway/api"
	"crossway/iface"
)

// at is the address that a text is.
func at(s string) api.Addr {
	a, e := addr.Parse(s)
	if e != api.OK {
		panic(s)
	}
	return a
}

// local is a local, of its address as a text.
func local(s string, bits int) api.Local { return api.Local{Addr: at(s), Bits: bits} }

// wrongAddrs are no valid addresses; some have the numbers of valid ones, and more.
var wrongAddrs = []api.Addr{
	{Lo: 1 << 32}, {Lo: 10<<24 + 1 + 1<<32}, {Lo: 1 << 63}, {Lo: math.MaxUint64}, {Lo: 0xfe80 << 48},
	{Hi: 1}, {Hi: 1, Lo: 10<<24 + 1}, {Hi: 1 << 63}, {Hi: 0xfe80 << 48, Lo: 1}, {Hi: 0x20010db8 << 32, Lo: 1}, {Hi: math.MaxUint64, Lo: math.MaxUint64},
}

// noPorts are numbers of no port of a set with n of them.
func noPorts(n int) []int {
	return []int{math.MinInt, math.MinInt + 1, math.MinInt + n, math.MinInt32, -1 << 32, -9, -8, -n - 1, -n, -1, 0, n + 1, n + 2, n + 8, 256 + n, 1<<16 + n, math.MaxInt32, 1 << 32, 1<<32 + n, 1 << 62, math.MaxInt - 1, math.MaxInt}
}

func expectAdd(t *testing.T, s *iface.Set, name string, mac api.Mac, mtu, want int) {
	t.Helper()
	if n, e := s.Add(name, mac, mtu); n != want || e != api.OK {
		t.Fatalf("O1: Add(%q, %d, %d) is %d %d, not %d", name, mac, mtu, n, e, want)
	}
}

// expectNoAdd expects an error of Add, and that all is as it was.
func expectNoAdd(t *testing.T, s *iface.Set, name string, mac api.Mac, mtu int, want api.Errno) {
	t.Helper()
	before := tells(s)
	if n, e := s.Add(name, mac, mtu); n != 0 || e != want {
		t.Fatalf("O1: Add(%q, %d, %d) is %d %d, not the error %d", name, mac, mtu, n, e, want)
	}
	expectTells(t, s, before)
}

func expectTurn(t *testing.T, s *iface.Set, port int, up bool) {
	t.Helper()
	if e := s.Turn(port, up); e != api.OK {
		t.Fatalf("O1: Turn(%d, %t) is %d", port, up, e)
	}
}

func expectNoTurn(t *testing.T, s *iface.Set, port int) {
	t.Helper()
	before := tells(s)
	for _, up := range []bool{true, false} {
		if e := s.Turn(port, up); e != api.ErrIfaceNone {
			t.Fatalf("O1: Turn(%d, %t) is %d", port, up, e)
		}
		expectTells(t, s, before)
	}
}

func expectPut(t *testing.T, s *iface.Set, port int, a string, bits int) {
	t.Helper()
	if e := s.Put(port, at(a), bits); e != api.OK {
		t.Fatalf("O2: Put(%d, %s, %d) is %d", port, a, bits, e)
	}
}

// expectNoPut expects an error of Put, and that all is as it was.
func expectNoPut(t *testing.T, s *iface.Set, port int, a api.Addr, bits int, want api.Errno) {
	t.Helper()
	before := tells(s)
	if e := s.Put(port, a, bits); e != want {
		t.Fatalf("O2: Put(%d, %v, %d) is %d, not %d", port, a, bits, e, want)
	}
	expectTells(t, s, before)
}

func expectDrop(t *testing.T, s *iface.Set, port int, a string) {
	t.Helper()
	if e := s.Drop(port, at(a)); e != api.OK {
		t.Fatalf("O2: Drop(%d, %s) is %d", port, a, e)
	}
}

func expectNoDrop(t *testing.T, s *iface.Set, port int, a api.Addr) {
	t.Helper()
	before := tells(s)
	if e := s.Drop(port, a); e != api.ErrIfaceNone {
		t.Fatalf("O2: Drop(%d, %v) is %d", port, a, e)
	}
	expectTells(t, s, before)
}

func expectPort(t *testing.T, s *iface.Set, port int, want api.Port) {
	t.Helper()
	if p, ok := s.Port(port); p != want || !ok {
		t.Fatalf("O3: Port(%d) is %v %t, not %v", port, p, ok, want)
	}
}

func expectNoPort(t *testing.T, s *iface.Set, port int) {
	t.Helper()
	if p, ok := s.Port(port); p != (api.Port{}) || ok {
		t.Fatalf("O3: Port(%d) is %v %t", port, p, ok)
	}
	if l := s.Locals(port); len(l) != 0 {
		t.Fatalf("O3: Locals(%d) is %v", port, l)
	}
	for _, a := range probes() {
		if from, ok := s.Source(port, a); from != (api.Addr{}) || ok {
			t.Fatalf("O4: Source(%d, %v) is %v %t", port, a, from, ok)
		}
	}
}

func expectLocals(t *testing.T, s *iface.Set, port int, want ...api.Local) {
	t.Helper()
	if l := s.Locals(port); !slices.Equal(l, want) {
		t.Fatalf("O3: Locals(%d) is %v, not %v", port, l, want)
	}
}

func expectNamed(t *testing.T, s *iface.Set, name string, want int) {
	t.Helper()
	if n := s.Named(name); n != want {
		t.Fatalf("O3: Named(%q) is %d, not %d", name, n, want)
	}
}

func expectMine(t *testing.T, s *iface.Set, a string, want int) {
	t.Helper()
	if n := s.Mine(at(a)); n != want {
		t.Fatalf("O3: Mine(%s) is %d, not %d", a, n, want)
	}
}

// expectNear expects a port, or, for 0, none.
func expectNear(t *testing.T, s *iface.Set, a string, want int) {
	t.Helper()
	if n, ok := s.Near(at(a)); n != want || ok != (want != 0) {
		t.Fatalf("O3: Near(%s) is %d %t, not %d", a, n, ok, want)
	}
}

func expectSource(t *testing.T, s *iface.Set, port int, to, want string) {
	t.Helper()
	if a, ok := s.Source(port, at(to)); a != at(want) || !ok {
		t.Fatalf("O4: Source(%d, %s) is %s %t, not %s", port, to, addr.Print(a), ok, want)
	}
}

func expectNoSource(t *testing.T, s *iface.Set, port int, to api.Addr) {
	t.Helper()
	if a, ok := s.Source(port, to); a != (api.Addr{}) || ok {
		t.Fatalf("O4: Source(%d, %v) is %v %t", port, to, a, ok)
	}
}

// ports is a set with n ports, p1, p2, .., whose link-layer addresses are 2, 4, .., and
// whose Mtu is 1500.
func ports(t *testing.T, n int) *iface.Set {
	t.Helper()
	s := iface.New()
	if s == nil {
		t.Fatal("O1: New returns no set")
	}
	for i := 1; i <= n; i++ {
		expectAdd(t, s, nameOf(i), api.Mac(2*i), 1500, i)
	}
	return s
}

// nameOf is the name of a port of a set that ports made.
func nameOf(i int) string { return "p" + string(rune('0'+i)) }

// upPorts is such a set whose ports are all up.
func upPorts(t *testing.T, n int) *iface.Set {
	t.Helper()
	s := ports(t, n)
	for i := 1; i <= n; i++ {
		expectTurn(t, s, i, true)
	}
	return s
}

// TestExamples are the chapter's.
func TestExamples(t *testing.T) {
	s := iface.New()
	expectAdd(t, s, "eth0", 2, 1500, 1)
	expectNoAdd(t, s, "eth0", 4, 1500, api.ErrIfaceName)
	expectNoAdd(t, s, "eth1", 3<<40, 1500, api.ErrArg)
	expectPut(t, s, 1, "10.0.0.1", 24)
	expectNoPut(t, s, 1, at("10.0.0.1"), 16, api.ErrIfaceAddr)
	expectNoPut(t, s, 1, at("127.0.0.1"), 8, api.ErrIfaceAddr)
	expectNear(t, s, "10.0.0.9", 0)
	expectTurn(t, s, 1, true)
	expectNear(t, s, "10.0.0.9", 1)
	expectMine(t, s, "10.0.0.1", 1)
	expectPut(t, s, 1, "10.0.1.1", 16)
	expectSource(t, s, 1, "10.0.0.9", "10.0.0.1")
	expectSource(t, s, 1, "10.0.9.9", "10.0.1.1")
	expectSource(t, s, 1, "11.0.0.1", "10.0.0.1")
	expectNoSource(t, s, 1, at("::1"))
}

// TestNew: a new set has no ports.
func TestNew(t *testing.T) {
	s := iface.New()
	for _, port := range append(noPorts(0), 1, 2, 8, 9) {
		expectNoPort(t, s, port)
		expectNoTurn(t, s, port)
		expectNoPut(t, s, port, at("10.0.0.1"), 24, api.ErrIfaceNone)
		expectNoDrop(t, s, port, at("10.0.0.1"))
	}
	for _, name := range []string{"", "a", "p1", "eth0"} {
		expectNamed(t, s, name, 0)
	}
	for _, a := range probes() {
		if n := s.Mine(a); n != 0 {
			t.Errorf("O3: Mine(%v) is %d", a, n)
		}
		if n, ok := s.Near(a); n != 0 || ok {
			t.Errorf("O3: Near(%v) is %d %t", a, n, ok)
		}
	}
}
