package iface_test

import (
	"testing"

	"crossway/api"
	"crossway/iface"
)

// TestNoPorts: of what is no port, nothing is told, whatever the others have.
func TestNoPorts(t *testing.T) {
	for n := 1; n <= 8; n++ {
		s := upPorts(t, n)
		expectPut(t, s, 1, "10.0.0.1", 24)
		expectPut(t, s, n, "fe80::1", 64)
		for _, port := range noPorts(n) {
			expectNoPort(t, s, port)
		}
	}
}

func TestNamed(t *testing.T) {
	s := iface.New()
	for i, name := range []string{"b", "a", "ab", "eth0", "eth1", "eth", "e", "abcdefgh"} {
		expectNamed(t, s, name, 0)
		expectAdd(t, s, name, 2, 1500, i+1)
		expectNamed(t, s, name, i+1)
	}
	for _, name := range append([]string{"c", "eth2", "abcdefg", "ba", "eth00", "et", "B", "A", "Eth0", "eth0 ", " eth0", "a\x00"}, badNames...) {
		expectNamed(t, s, name, 0)
	}
	expectTurn(t, s, 4, true)
	expectPut(t, s, 4, "10.0.0.1", 24)
	expectNamed(t, s, "eth0", 4)
}

// TestMine: an address is a port's whether this is up or down, and only the whole address.
func TestMine(t *testing.T) {
	s := ports(t, 3)
	expectPut(t, s, 1, "10.0.0.1", 8)
	expectPut(t, s, 3, "10.0.0.2", 8)
	expectPut(t, s, 3, "2001:db8::1", 32)
	expectPut(t, s, 2, "fe80::1", 10)
	for _, up := range []bool{false, true, false} {
		for port := 1; port <= 3; port++ {
			expectTurn(t, s, port, up)
		}
		expectMine(t, s, "10.0.0.1", 1)
		expectMine(t, s, "10.0.0.2", 3)
		expectMine(t, s, "2001:db8::1", 3)
		expectMine(t, s, "fe80::1", 2)
		for _, text := range []string{"10.0.0.0", "10.0.0.3", "10.255.255.255", "2001:db8::", "2001:db8::2", "2001:db8:0:1::1", "fe80::", "fe81::1", "::a00:1", "0.0.0.0", "::", "0.0.0.1", "::1", "127.0.0.1"} {
			expectMine(t, s, text, 0)
		}
		for _, a := range wrongAddrs {
			if n := s.Mine(a); n != 0 {
				t.Errorf("O3: Mine(%v) is %d", a, n)
			}
		}
	}
}

// TestNearUp: only ports that are up count.
func TestNearUp(t *testing.T) {
	s := ports(t, 3)
	expectPut(t, s, 1, "10.0.0.1", 24)
	expectPut(t, s, 2, "10.0.0.2", 16)
	expectPut(t, s, 3, "10.0.0.3", 8)
	for mask := range 8 {
		want := 0
		for port := 3; port >= 1; port-- {
			up := mask>>(port-1)&1 == 1
			expectTurn(t, s, port, up)
			if up {
				want = port
			}
		}
		expectNear(t, s, "10.0.0.9", want)
		// Those of its own too.
		expectNear(t, s, "10.0.0.1", want)
		expectNear(t, s, "10.0.0.3", want)
		expectNear(t, s, "11.0.0.1", 0)
	}
}

// TestNearLongest: of several ports the one whose local has the most bits, whatever the
// order of the ports, and of the locals, is.
func TestNearLongest(t *testing.T) {
	for _, order := range [][3]int{{1, 2, 3}, {1, 3, 2}, {2, 1, 3}, {2, 3, 1}, {3, 1, 2}, {3, 2, 1}} {
		s := upPorts(t, 3)
		wide, middle, narrow := order[0], order[1], order[2]
		expectPut(t, s, wide, "10.0.0.1", 8)
		expectPut(t, s, middle, "10.1.0.1", 16)
		expectPut(t, s, narrow, "10.1.2.1", 24)
		expectNear(t, s, "10.9.9.9", wide)
		expectNear(t, s, "10.1.9.9", middle)
		expectNear(t, s, "10.1.2.9", narrow)
		expectNear(t, s, "9.1.2.9", 0)
		expectTurn(t, s, narrow, false)
		expectNear(t, s, "10.1.2.9", middle)
		expectTurn(t, s, middle, false)
		expectNear(t, s, "10.1.2.9", wide)
		// A longer prefix that does not hold the address counts nothing.
		expectPut(t, s, wide, "11.0.0.1", 32)
		expectPut(t, s, wide, "10.1.2.2", 25)
		expectNear(t, s, "10.1.2.3", wide)
		expectTurn(t, s, narrow, true)
		expectNear(t, s, "10.1.2.3", wide)
		expectNear(t, s, "10.1.2.200", narrow)
	}
}

// TestNearLeast: of several ports with as many bits the one with the least number.
func TestNearLeast(t *testing.T) {
	s := ports(t, 8)
	for port := 8; port >= 1; port-- {
		if e := s.Put(port, api.Addr{Lo: 10<<24 + uint64(port)}, 24); e != api.OK {
			t.Fatalf("O2: %d", e)
		}
		if e := s.Put(port, api.Addr{Six: true, Hi: 0xfe80 << 48, Lo: uint64(port)}, 64); e != api.OK {
			t.Fatalf("O2: %d", e)
		}
	}
	for mask := range 256 {
		want := 0
		for port := 8; port >= 1; port-- {
			up := mask>>(port-1)&1 == 1
			expectTurn(t, s, port, up)
			if up {
				want = port
			}
		}
		expectNear(t, s, "10.0.0.200", want)
		expectNear(t, s, "10.0.0.5", want)
		expectNear(t, s, "fe80::200", want)
	}
}

// TestNearSeveralLocals: a port is near by whichever of its locals holds the address with
// the most bits.
func TestNearSeveralLocals(t *testing.T) {
	s := upPorts(t, 2)
	expectPut(t, s, 1, "10.0.0.1", 20)
	expectPut(t, s, 2, "10.0.0.2", 8)
	expectPut(t, s, 2, "11.0.0.2", 30)
	expectNear(t, s, "10.0.0.3", 1)
	expectPut(t, s, 2, "10.0.0.4", 21)
	expectPut(t, s, 2, "10.0.0.5", 9)
	expectNear(t, s, "10.0.0.3", 2)
	expectPut(t, s, 1, "10.0.0.6", 21)
	expectNear(t, s, "10.0.0.3", 1)
	expectDrop(t, s, 1, "10.0.0.1")
	expectNear(t, s, "10.0.0.3", 1)
	expectDrop(t, s, 1, "10.0.0.6")
	expectNear(t, s, "10.0.0.3", 2)
	expectDrop(t, s, 2, "10.0.0.4")
	expectNear(t, s, "10.0.0.3", 2)
}

// TestNearFamilies: no local holds an address of the other family, or what is no address.
func TestNearFamilies(t *testing.T) {
	s := upPorts(t, 2)
	expectPut(t, s, 1, "0.0.0.1", 1)
	expectPut(t, s, 1, "128.0.0.1", 1)
	for _, text := range []string{"0.0.0.0", "10.0.0.1", "127.0.0.1", "224.0.0.5", "255.255.255.255"} {
		expectNear(t, s, text, 1)
	}
	for _, text := range []string{"::", "::1", "::a00:1", "2001:db8::1", "8000::", "ffff::"} {
		expectNear(t, s, text, 0)
	}
	expectPut(t, s, 2, "::2", 1)
	expectPut(t, s, 2, "8000::1", 1)
	for _, text := range []string{"::", "::1", "::a00:1", "2001:db8::1", "8000::", "ffff::"} {
		expectNear(t, s, text, 2)
	}
	expectNear(t, s, "10.0.0.1", 1)
	for _, a := range wrongAddrs {
		if n, ok := s.Near(a); n != 0 || ok {
			t.Errorf("O3: Near(%v) is %d %t", a, n, ok)
		}
	}
}

// TestNearEachBit: a local holds the addresses with the same first bits, and no others.
func TestNearEachBit(t *testing.T) {
	for _, text := range []string{"10.203.77.129", "2001:db8:cafe:1:8234:5678:9abc:def1"} {
		a := at(text)
		for bits := 1; bits <= bitsOf(a); bits++ {
			s := upPorts(t, 1)
			expectPut(t, s, 1, text, bits)
			for i := range bitsOf(a) {
				b := a
				if i < bitsOf(a)-64 {
					b.Hi ^= 1 << (63 - i)
				} else {
					b.Lo ^= 1 << (bitsOf(a) - 1 - i)
				}
				if n, ok := s.Near(b); ok != (i >= bits) || ok != (n == 1) {
					t.Fatalf("O3: with %s and %d bits, Near of it with another bit %d is %d %t", text, bits, i, n, ok)
				}
			}
		}
	}
}

// TestBehindEachCall: what is told of one port, by all calls that ask, behind each call that
// changes it.
func TestBehindEachCall(t *testing.T) {
	s := ports(t, 2)
	expect := func(up bool, mine, near int, locals ...api.Local) {
		t.Helper()
		expectPort(t, s, 2, api.Port{Name: "p2", Mac: 4, Mtu: 1500, Up: up})
		expectPort(t, s, 1, api.Port{Name: "p1", Mac: 2, Mtu: 1500})
		expectNamed(t, s, "p2", 2)
		expectLocals(t, s, 1)
		expectLocals(t, s, 2, locals...)
		expectMine(t, s, "10.0.0.1", mine)
		expectNear(t, s, "10.0.0.9", near)
	}
	expect(false, 0, 0)
	expectPut(t, s, 2, "10.0.0.1", 24)
	expect(false, 2, 0, local("10.0.0.1", 24))
	expectTurn(t, s, 2, true)
	expect(true, 2, 2, local("10.0.0.1", 24))
	expectPut(t, s, 2, "10.0.0.2", 24)
	expect(true, 2, 2, local("10.0.0.1", 24), local("10.0.0.2", 24))
	expectDrop(t, s, 2, "10.0.0.1")
	expect(true, 0, 2, local("10.0.0.2", 24))
	expectPut(t, s, 2, "10.0.0.1", 30)
	expect(true, 2, 2, local("10.0.0.2", 24), local("10.0.0.1", 30))
	expectTurn(t, s, 2, false)
	expect(false, 2, 0, local("10.0.0.2", 24), local("10.0.0.1", 30))
	expectTurn(t, s, 2, true)
	expectDrop(t, s, 2, "10.0.0.2")
	expect(true, 2, 0, local("10.0.0.1", 30))
	expectDrop(t, s, 2, "10.0.0.1")
	expect(true, 0, 0)
}

// TestSourceLongest: of the locals whose prefixes hold the address the one with the most
// bits, wherever it stands.
func TestSourceLongest(t *testing.T) {
	texts := []string{"10.0.0.1", "10.1.0.1", "10.1.2.1"}
	for _, order := range [][3]int{{0, 1, 2}, {0, 2, 1}, {1, 0, 2}, {1, 2, 0}, {2, 0, 1}, {2, 1, 0}} {
		s := ports(t, 2)
		expectPut(t, s, 2, "11.0.0.1", 32)
		for _, i := range order {
			expectPut(t, s, 2, texts[i], 8*i+8)
		}
		expectPut(t, s, 1, "10.1.2.3", 30)
		for _, up := range []bool{false, true} {
			expectTurn(t, s, 2, up)
			expectSource(t, s, 2, "10.9.9.9", "10.0.0.1")
			expectSource(t, s, 2, "10.1.9.9", "10.1.0.1")
			expectSource(t, s, 2, "10.1.2.9", "10.1.2.1")
			expectSource(t, s, 2, "10.1.2.3", "10.1.2.1")
			expectSource(t, s, 2, "11.0.0.1", "11.0.0.1")
			// None holds it: the first one.
			expectSource(t, s, 2, "11.0.0.2", "11.0.0.1")
			expectSource(t, s, 2, "0.0.0.0", "11.0.0.1")
			expectSource(t, s, 1, "10.9.9.9", "10.1.2.3")
		}
	}
}

// TestSourceFirst: of several with as many bits the first one.
func TestSourceFirst(t *testing.T) {
	s := ports(t, 1)
	for _, text := range []string{"10.0.0.5", "10.0.0.3", "10.0.0.9", "10.0.0.1"} {
		expectPut(t, s, 1, text, 24)
		expectSource(t, s, 1, "10.0.0.1", "10.0.0.5")
		expectSource(t, s, 1, "10.0.0.9", "10.0.0.5")
		expectSource(t, s, 1, "11.0.0.9", "10.0.0.5")
	}
	expectDrop(t, s, 1, "10.0.0.5")
	expectSource(t, s, 1, "10.0.0.1", "10.0.0.3")
	expectSource(t, s, 1, "11.0.0.1", "10.0.0.3")
	expectPut(t, s, 1, "10.0.0.5", 24)
	expectSource(t, s, 1, "10.0.0.5", "10.0.0.3")
	expectDrop(t, s, 1, "10.0.0.3")
	expectDrop(t, s, 1, "10.0.0.9")
	expectSource(t, s, 1, "10.0.0.5", "10.0.0.1")
}

// TestSourceFamilies: only locals of the family of the address count.
func TestSourceFamilies(t *testing.T) {
	s := ports(t, 3)
	expectPut(t, s, 1, "10.0.0.1", 24)
	expectPut(t, s, 2, "fe80::1", 64)
	for _, text := range []string{"::", "::1", "::2", "::a00:1", "::a00:9", "2001:db8::1", "fe80::1", "ff02::1"} {
		expectNoSource(t, s, 1, at(text))
		expectSource(t, s, 2, text, "fe80::1")
		expectNoSource(t, s, 3, at(text))
	}
	for _, text := range []string{"0.0.0.0", "0.0.0.1", "10.0.0.1", "10.0.0.9", "11.0.0.1", "127.0.0.1", "224.0.0.5", "255.255.255.255"} {
		expectSource(t, s, 1, text, "10.0.0.1")
		expectNoSource(t, s, 2, at(text))
		expectNoSource(t, s, 3, at(text))
	}
	expectPut(t, s, 1, "2001:db8::1", 64)
	expectPut(t, s, 1, "fe80::2", 64)
	expectPut(t, s, 1, "10.0.1.1", 24)
	for to, want := range map[string]string{
		"2001:db8::9": "2001:db8::1", "fe80::9": "fe80::2", "2001:db9::1": "2001:db8::1", "ff02::1": "2001:db8::1", "::a00:101": "2001:db8::1",
		"10.0.1.9": "10.0.1.1", "10.0.0.9": "10.0.0.1", "10.0.2.9": "10.0.0.1", "224.0.0.5": "10.0.0.1",
	} {
		expectSource(t, s, 1, to, want)
	}
	expectPut(t, s, 2, "10.9.0.1", 24)
	expectSource(t, s, 2, "10.0.0.1", "10.9.0.1")
	expectSource(t, s, 2, "fe80::9", "fe80::1")
}

// TestSourceNone: of what is no port, and for what is no address, there is none.
func TestSourceNone(t *testing.T) {
	s := upPorts(t, 2)
	expectPut(t, s, 1, "10.0.0.1", 1)
	expectPut(t, s, 1, "128.0.0.1", 1)
	expectPut(t, s, 1, "::2", 1)
	expectPut(t, s, 1, "8000::1", 1)
	for _, a := range wrongAddrs {
		for _, port := range append(noPorts(2), 1, 2) {
			expectNoSource(t, s, port, a)
		}
	}
	for _, port := range append(noPorts(2), 2) {
		expectNoSource(t, s, port, at("10.0.0.1"))
		expectNoSource(t, s, port, at("::2"))
	}
}
