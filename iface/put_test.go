package iface_test

import (
	"math"
	"testing"

	"crossway/addr"
	"crossway/api"
	"crossway/iface"
)

// goodAddrs are addresses that a port may have, and badAddrs those that it may not.
var (
	goodAddrs = []string{
		"0.0.0.1", "1.2.3.4", "10.0.0.0", "10.255.255.255", "126.255.255.255", "128.0.0.0", "169.253.255.255", "169.254.0.0", "169.254.255.255", "169.255.0.0",
		"192.168.1.1", "223.255.255.255", "240.0.0.0", "240.0.0.1", "255.255.255.254",
		"::2", "::a00:1", "1::", "100::1", "2001:db8::1", "::ffff:a00:1", "::ffff:7f00:1", "fe7f:ffff::1", "fe80::", "fe80::1", "febf:ffff:ffff:ffff:ffff:ffff:ffff:ffff", "fec0::1", "fc00::1", "feff:ffff::1", "8000::", "7fff::",
	}
	badAddrs = []string{
		"0.0.0.0", "127.0.0.0", "127.0.0.1", "127.255.255.255", "224.0.0.0", "224.0.0.5", "239.255.255.255", "255.255.255.255",
		"::", "::1", "ff00::", "ff02::1", "ff02::1:ff00:1", "ffff::1", "ffff:ffff:ffff:ffff:ffff:ffff:ffff:ffff",
	}
)

// bitsOf is how many bits an address has.
func bitsOf(a api.Addr) int {
	if a.Six {
		return 128
	}
	return 32
}

// noBits are numbers of bits that no local has.
var noBits = []int{math.MinInt, math.MinInt + 1, math.MinInt + 24, math.MinInt32, -128, -32, -24, -1, 0, 129, 130, 160, 256, 256 + 24, 1<<16 + 24, math.MaxInt32, 1 << 32, 1<<32 + 24, math.MaxInt - 1, math.MaxInt}

func TestPutClasses(t *testing.T) {
	for _, text := range goodAddrs {
		for _, bits := range []int{1, 8, 31, 32} {
			s := ports(t, 2)
			expectPut(t, s, 2, text, bits)
			expectLocals(t, s, 2, local(text, bits))
			expectLocals(t, s, 1)
			expectMine(t, s, text, 2)
		}
	}
	s := ports(t, 2)
	for _, text := range badAddrs {
		for _, bits := range []int{1, 8, 31, 32} {
			expectNoPut(t, s, 1, at(text), bits, api.ErrIfaceAddr)
			expectNoPut(t, s, 2, at(text), bits, api.ErrIfaceAddr)
		}
	}
	for _, a := range wrongAddrs {
		for _, bits := range []int{1, 24, 32, 64, 128} {
			expectNoPut(t, s, 1, a, bits, api.ErrIfaceAddr)
		}
	}
}

// TestPutEachClass: whether a port may have an address hangs on its class alone, for those
// around the edges of the classes.
func TestPutEachClass(t *testing.T) {
	var all []api.Addr
	for top := range uint64(256) {
		all = append(all, api.Addr{Lo: top << 24}, api.Addr{Lo: top<<24 | 1}, api.Addr{Lo: top<<24 | 1<<24 - 1}, api.Addr{Lo: 169<<24 | top<<16 | 1})
		all = append(all, api.Addr{Six: true, Hi: top << 56}, api.Addr{Six: true, Hi: top << 56, Lo: 1}, api.Addr{Six: true, Hi: 0xfe<<56 | top<<48, Lo: 1}, api.Addr{Six: true, Lo: top})
	}
	for _, a := range all {
		s := ports(t, 1)
		class := addr.Class(a)
		want := api.ErrIfaceAddr
		if class == api.ClassLink || class == api.ClassPlain {
			want = api.OK
		}
		if e := s.Put(1, a, 8); e != want {
			t.Errorf("O2: Put(%v) of the class %d is %d", a, class, e)
		}
	}
}

func TestPutBits(t *testing.T) {
	for _, text := range []string{"10.0.0.1", "169.254.1.1", "2001:db8::1", "fe80::1"} {
		a := at(text)
		for bits := -200; bits <= 300; bits++ {
			s := ports(t, 1)
			if bits >= 1 && bits <= bitsOf(a) {
				expectPut(t, s, 1, text, bits)
				expectLocals(t, s, 1, api.Local{Addr: a, Bits: bits})
			} else {
				expectNoPut(t, s, 1, a, bits, api.ErrIfaceAddr)
			}
		}
		s := ports(t, 1)
		for _, bits := range noBits {
			expectNoPut(t, s, 1, a, bits, api.ErrIfaceAddr)
		}
		expectPut(t, s, 1, text, 1)
	}
	s := ports(t, 1)
	expectNoPut(t, s, 1, at("10.0.0.1"), 33, api.ErrIfaceAddr)
	expectPut(t, s, 1, "2001:db8::1", 33)
}

// TestPutThere: an address that a port has is no other one's, with whatever bits.
func TestPutThere(t *testing.T) {
	s := upPorts(t, 3)
	expectPut(t, s, 1, "10.0.0.1", 24)
	expectPut(t, s, 2, "10.0.0.2", 24)
	expectPut(t, s, 2, "fe80::1", 64)
	expectTurn(t, s, 2, false)
	for port := 1; port <= 3; port++ {
		for _, text := range []string{"10.0.0.1", "10.0.0.2", "fe80::1"} {
			for bits := 1; bits <= bitsOf(at(text)); bits++ {
				expectNoPut(t, s, port, at(text), bits, api.ErrIfaceAddr)
			}
		}
	}
	// One of the same prefix, or with the same number in the other family, is another one.
	expectPut(t, s, 3, "10.0.0.3", 24)
	if e := s.Put(3, api.Addr{Six: true, Lo: at("10.0.0.1").Lo}, 24); e != api.OK {
		t.Errorf("O2: ::a00:1 is refused: %d", e)
	}
	if e := s.Put(1, api.Addr{Six: true, Hi: 1, Lo: at("fe80::1").Lo}, 64); e != api.OK {
		t.Errorf("O2: 0:0:0:1::1 is refused: %d", e)
	}
}

// TestPutMtus: IPv6 addresses need an Mtu of 1280; IPv4 addresses need none.
func TestPutMtus(t *testing.T) {
	for _, mtu := range []int{68, 69, 576, 1278, 1279, 1280, 1281, 1499, 1500} {
		s := iface.New()
		expectAdd(t, s, "a", 2, mtu, 1)
		expectPut(t, s, 1, "10.0.0.1", 24)
		for _, text := range []string{"2001:db8::1", "fe80::1"} {
			if mtu >= 1280 {
				expectPut(t, s, 1, text, 64)
			} else {
				expectNoPut(t, s, 1, at(text), 64, api.ErrIfaceAddr)
			}
		}
		expectPut(t, s, 1, "10.0.0.2", 24)
	}
	// It is the Mtu of that port which counts.
	s := iface.New()
	expectAdd(t, s, "a", 2, 1500, 1)
	expectAdd(t, s, "b", 2, 1279, 2)
	expectAdd(t, s, "c", 2, 1280, 3)
	expectNoPut(t, s, 2, at("fe80::1"), 64, api.ErrIfaceAddr)
	expectPut(t, s, 3, "fe80::1", 64)
	expectPut(t, s, 1, "fe80::2", 64)
}

// eight are as many addresses as a port may have.
var eight = []string{"10.0.0.1", "fe80::1", "10.0.0.2", "169.254.0.1", "2001:db8::1", "10.0.0.0", "::2", "240.0.0.1"}

// full is a set with two ports, whose second one has the eight addresses, with 1, 2, ..
// bits.
func full(t *testing.T) *iface.Set {
	t.Helper()
	s := ports(t, 2)
	for i, text := range eight {
		expectPut(t, s, 2, text, i+1)
	}
	return s
}

// lessOne is the locals of the second port of a full set, without the one at a place.
func lessOne(place int) (l []api.Local) {
	for i, text := range eight {
		if i != place {
			l = append(l, local(text, i+1))
		}
	}
	return l
}

func TestPutFull(t *testing.T) {
	s := full(t)
	expectLocals(t, s, 2, lessOne(-1)...)
	for range 2 {
		expectNoPut(t, s, 2, at("10.0.0.9"), 24, api.ErrIfaceFull)
		expectNoPut(t, s, 2, at("fe80::9"), 64, api.ErrIfaceFull)
	}
	// Another port still has room.
	expectPut(t, s, 1, "10.0.0.9", 24)
	expectNoPut(t, s, 2, at("10.0.0.9"), 24, api.ErrIfaceAddr)
	expectDrop(t, s, 1, "10.0.0.9")
	expectDrop(t, s, 2, "10.0.0.1")
	expectPut(t, s, 2, "10.0.0.9", 24)
	expectNoPut(t, s, 2, at("10.0.0.1"), 24, api.ErrIfaceFull)
	expectLocals(t, s, 2, append(lessOne(0), local("10.0.0.9", 24))...)
}

// TestPutAllFull: all ports of a full set may be full of addresses.
func TestPutAllFull(t *testing.T) {
	s := ports(t, 8)
	for i := range uint64(64) {
		if e := s.Put(int(i/8)+1, api.Addr{Lo: 10<<24 + i}, 32); e != api.OK {
			t.Fatalf("O2: the address %d: %d", i, e)
		}
	}
	for port := 1; port <= 8; port++ {
		expectNoPut(t, s, port, at("10.1.0.0"), 32, api.ErrIfaceFull)
		expectNoPut(t, s, port, at("10.0.0.63"), 32, api.ErrIfaceAddr)
		if l := s.Locals(port); len(l) != 8 {
			t.Errorf("O3: Locals(%d) is %v", port, l)
		}
	}
	for i := range uint64(64) {
		if n := s.Mine(api.Addr{Lo: 10<<24 + i}); n != int(i/8)+1 {
			t.Errorf("O3: the address %d is that of %d", i, n)
		}
	}
}

// TestPutErrorsInOrder: the port's error comes first, then the address's, then that of the
// room.
func TestPutErrorsInOrder(t *testing.T) {
	s := full(t)
	expectAdd(t, s, "small", 2, 1279, 3)
	for i := range uint64(8) {
		if e := s.Put(3, api.Addr{Lo: 11<<24 + i}, 24); e != api.OK {
			t.Fatalf("O2: %d", e)
		}
	}
	wrong := append([]api.Addr{at("127.0.0.1"), at("::"), at("ff02::1"), at("10.0.0.1"), at("fe80::1"), at("11.0.0.7")}, wrongAddrs...)
	for _, port := range noPorts(3) {
		for _, a := range append(wrong, at("10.9.9.9"), at("fe80::9")) {
			expectNoPut(t, s, port, a, 24, api.ErrIfaceNone)
			expectNoPut(t, s, port, a, 0, api.ErrIfaceNone)
		}
	}
	for _, port := range []int{2, 3} {
		for _, a := range wrong {
			expectNoPut(t, s, port, a, 24, api.ErrIfaceAddr)
		}
		for _, bits := range noBits {
			expectNoPut(t, s, port, at("10.9.9.9"), bits, api.ErrIfaceAddr)
			expectNoPut(t, s, port, at("fe80::9"), bits, api.ErrIfaceAddr)
		}
		expectNoPut(t, s, port, at("10.9.9.9"), 33, api.ErrIfaceAddr)
		expectNoPut(t, s, port, at("10.9.9.9"), 32, api.ErrIfaceFull)
	}
	expectNoPut(t, s, 2, at("fe80::9"), 64, api.ErrIfaceFull)
	expectNoPut(t, s, 3, at("fe80::9"), 64, api.ErrIfaceAddr)
}

// TestDropEach: each one of eight, also the first and the last one, and the others stay in
// their order.
func TestDropEach(t *testing.T) {
	for place, text := range eight {
		s := full(t)
		expectDrop(t, s, 2, text)
		expectLocals(t, s, 2, lessOne(place)...)
		expectMine(t, s, text, 0)
		expectNoDrop(t, s, 2, at(text))
		expectNoDrop(t, s, 1, at(text))
		// It comes back at the end.
		expectPut(t, s, 2, text, 7)
		expectLocals(t, s, 2, append(lessOne(place), local(text, 7))...)
		expectMine(t, s, text, 2)
	}
}

func TestDropAll(t *testing.T) {
	for first := range eight {
		s := full(t)
		for i := range eight {
			expectDrop(t, s, 2, eight[(first+i)%8])
			expectNoDrop(t, s, 2, at(eight[(first+i)%8]))
		}
		expectLocals(t, s, 2)
		for i := range eight {
			expectNoDrop(t, s, 2, at(eight[i]))
			expectMine(t, s, eight[i], 0)
		}
	}
}

func TestDropOnlyOne(t *testing.T) {
	s := upPorts(t, 1)
	for _, text := range []string{"10.0.0.1", "fe80::1", "10.0.0.1"} {
		expectPut(t, s, 1, text, 16)
		expectNear(t, s, text, 1)
		expectDrop(t, s, 1, text)
		expectLocals(t, s, 1)
		expectMine(t, s, text, 0)
		expectNear(t, s, text, 0)
		expectNoSource(t, s, 1, at(text))
		expectPort(t, s, 1, api.Port{Name: "p1", Mac: 2, Mtu: 1500, Up: true})
	}
}

func TestDropRefused(t *testing.T) {
	s := ports(t, 3)
	expectPut(t, s, 1, "10.0.0.1", 24)
	expectPut(t, s, 2, "10.0.0.2", 24)
	expectPut(t, s, 2, "fe80::1", 64)
	for _, port := range noPorts(3) {
		expectNoDrop(t, s, port, at("10.0.0.1"))
		expectNoDrop(t, s, port, at("10.9.9.9"))
	}
	expectNoDrop(t, s, 2, at("10.0.0.1"))
	expectNoDrop(t, s, 3, at("10.0.0.1"))
	expectNoDrop(t, s, 1, at("10.0.0.2"))
	expectNoDrop(t, s, 1, at("fe80::1"))
	for port := 1; port <= 3; port++ {
		// Of the same prefix, the same number, or no address.
		for _, a := range append([]api.Addr{{}, {Six: true}, at("10.0.0.0"), at("10.0.0.3"), at("fe80::"), at("fe80::2"), at("::a00:1")}, wrongAddrs...) {
			expectNoDrop(t, s, port, a)
		}
	}
}

// TestDropAndPutElsewhere: an address that was dropped may be that of another port.
func TestDropAndPutElsewhere(t *testing.T) {
	s := upPorts(t, 8)
	expectPut(t, s, 1, "10.0.0.1", 24)
	expectPut(t, s, 1, "10.0.0.2", 24)
	for port := 1; port < 8; port++ {
		expectNoPut(t, s, port+1, at("10.0.0.1"), 8, api.ErrIfaceAddr)
		expectDrop(t, s, port, "10.0.0.1")
		expectPut(t, s, port+1, "10.0.0.1", 25+port)
		expectMine(t, s, "10.0.0.1", port+1)
		expectNear(t, s, "10.0.0.1", port+1)
		expectLocals(t, s, port+1, local("10.0.0.1", 25+port))
		expectNoDrop(t, s, port, at("10.0.0.1"))
	}
	expectLocals(t, s, 1, local("10.0.0.2", 24))
}
