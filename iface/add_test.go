package iface_test

import (
	"math"
	"strings"
	"testing"

	"crossway/api"
	"crossway/iface"
)

// goodNames are names.
var goodNames = []string{"a", "z", "m", "ab", "a0", "z9", "eth0", "abcdefgh", "zyxwvuts", "a1234567", "z0000009", "qwert12", "p00", "p0"}

// badNames are texts that are no names.
var badNames = []string{
	"", "abcdefghi", "a12345678", "abcdefghabcdefgh", "0", "9", "0a", "9a", "1eth", "12345678",
	"A", "Z", "ETH0", "Eth0", "eTh0", "etH0", "abcdefgH", " ", "a ", " a", "a b", "a-b", "a_b", "a.b", "a/b", "_a", "-", "eth0\n", "\neth0", "a\x00", "\x00", "a\x7f", "`", "{", "/", ":", "a`", "a{", "a/", "a:", "a@", "a[",
	"é", "aé", "éa", "ß", "ä0", "е", "aа", "α", "a\u0660", "a\uff11", "a²", "ａ", "a\u200b", "日本", "a日", "a\U0001f600", "a\U0001d7d8", "e\u0301", "\ufeffa", "\ufffd", "a\ufffd", "\u0161", "a\u0131", "\u212a",
	"\x80", "\xff", "a\x80", "a\xff", "\xffa", "a\xc3", "\xc3", "a\xc3(", "\xc0\xe1", "a\xed\xa0\x80", "abcdefg\xff", "\xe1", "a\xb0", "a\xe1",
}

func TestAddNames(t *testing.T) {
	for i, name := range goodNames {
		s := iface.New()
		expectAdd(t, s, name, 2, 1500, 1)
		expectNamed(t, s, name, 1)
		expectPort(t, s, 1, api.Port{Name: name, Mac: 2, Mtu: 1500})
		other := goodNames[(i+1)%len(goodNames)]
		expectNamed(t, s, other, 0)
		expectAdd(t, s, other, 4, 1500, 2)
		expectNamed(t, s, name, 1)
		expectNamed(t, s, other, 2)
	}
	for _, name := range badNames {
		s := ports(t, 2)
		expectNoAdd(t, s, name, 2, 1500, api.ErrIfaceName)
		expectNamed(t, s, name, 0)
		expectNoPort(t, s, 3)
	}
}

// TestAddEachByte: each byte as a whole name, and at each place of names of several lengths.
func TestAddEachByte(t *testing.T) {
	for b := range 256 {
		letter := b >= 'a' && b <= 'z'
		digit := b >= '0' && b <= '9'
		for length := 1; length <= 9; length++ {
			for place := range length {
				text := []byte(strings.Repeat("k", length))
				text[place] = byte(b)
				s := iface.New()
				if length <= 8 && (letter || digit && place > 0) {
					expectAdd(t, s, string(text), 2, 1500, 1)
				} else {
					expectNoAdd(t, s, string(text), 2, 1500, api.ErrIfaceName)
				}
			}
		}
	}
}

// TestAddEachRune: of the runes that UTF-8 writes in several bytes, none is in a name.
func TestAddEachRune(t *testing.T) {
	s := iface.New()
	for r := rune(0x80); r <= 0x10ffff; r++ {
		for _, name := range []string{string(r), "a" + string(r)} {
			if n, e := s.Add(name, 2, 1500); n != 0 || e != api.ErrIfaceName {
				t.Fatalf("O1: Add(%q) is %d %d", name, n, e)
			}
		}
	}
	expectNoPort(t, s, 1)
}

func TestAddLongNames(t *testing.T) {
	s := ports(t, 1)
	for _, piece := range []string{"a", "0", "p1", "é", "\xff", "\x00"} {
		long := strings.Repeat(piece, 1<<20)
		expectNoAdd(t, s, long, 4, 1500, api.ErrIfaceName)
		expectNoAdd(t, s, "a"+long, 4, 1500, api.ErrIfaceName)
		expectNamed(t, s, long, 0)
	}
}

// TestAddNameThere: a name that a port has is no other one's, whichever port it is.
func TestAddNameThere(t *testing.T) {
	s := ports(t, 7)
	for i := 1; i <= 7; i++ {
		expectNoAdd(t, s, nameOf(i), 100, 1500, api.ErrIfaceName)
		expectNoAdd(t, s, nameOf(i), api.Mac(2*i), 1500, api.ErrIfaceName)
		expectTurn(t, s, i, true)
		expectNoAdd(t, s, nameOf(i), 100, 1500, api.ErrIfaceName)
	}
	expectAdd(t, s, "p", 2, 1500, 8)
	expectNamed(t, s, "p", 8)
}

func TestAddMacs(t *testing.T) {
	for _, mac := range []api.Mac{1, 2, 3, 255, 256, 1<<40 - 1, 2 << 40, 2<<40 + 1, 3<<40 - 1, 4 << 40, 254 << 40, 255<<40 - 1, 0x00005e000105} {
		s := iface.New()
		expectAdd(t, s, "a", mac, 1500, 1)
		expectPort(t, s, 1, api.Port{Name: "a", Mac: mac, Mtu: 1500})
		// Two ports may have the same.
		expectAdd(t, s, "b", mac, 1500, 2)
	}
	for _, mac := range []api.Mac{0, 1 << 40, 1<<40 + 1, 2<<40 - 1, 3 << 40, 3<<40 + 2, 0x01005e000001, 0x333300000001, 255 << 40, 1<<48 - 1,
		1 << 48, 1<<48 + 1, 1<<48 + 2, 1<<48 + 2<<40, 1 << 49, 1<<56 + 2, 1 << 63, 1<<63 + 2, math.MaxUint64 - 1<<40, math.MaxUint64 - 1, math.MaxUint64} {
		expectNoAdd(t, iface.New(), "a", mac, 1500, api.ErrArg)
		expectNoAdd(t, ports(t, 3), "a", mac, 1500, api.ErrArg)
	}
}

// TestAddEachBitOfAMac: each bit alone, and with the bit 1.
func TestAddEachBitOfAMac(t *testing.T) {
	for i := range 64 {
		for _, mac := range []api.Mac{1 << i, 1<<i | 2} {
			s := iface.New()
			if i < 48 && i != 40 {
				expectAdd(t, s, "a", mac, 1500, 1)
			} else {
				expectNoAdd(t, s, "a", mac, 1500, api.ErrArg)
			}
		}
	}
	for top := range api.Mac(256) {
		for _, rest := range []api.Mac{0, 1, 1<<40 - 1} {
			s, mac := iface.New(), top<<40|rest
			if mac != 0 && top%2 == 0 {
				expectAdd(t, s, "a", mac, 1500, 1)
			} else {
				expectNoAdd(t, s, "a", mac, 1500, api.ErrArg)
			}
		}
	}
}

func TestAddMtus(t *testing.T) {
	for mtu := -10; mtu < 3100; mtu++ {
		s := iface.New()
		if mtu >= 68 && mtu <= 1500 {
			expectAdd(t, s, "a", 2, mtu, 1)
			expectPort(t, s, 1, api.Port{Name: "a", Mac: 2, Mtu: mtu})
		} else {
			expectNoAdd(t, s, "a", 2, mtu, api.ErrArg)
		}
	}
	for _, mtu := range []int{math.MinInt, math.MinInt + 68, math.MinInt + 1500, math.MinInt32, -1500, -68, 1<<16 + 68, 1<<16 + 1500, 1<<32 + 68, 1<<32 + 1500, 1 << 62, math.MaxInt - 1, math.MaxInt} {
		expectNoAdd(t, iface.New(), "a", 2, mtu, api.ErrArg)
		expectNoAdd(t, ports(t, 7), "a", 2, mtu, api.ErrArg)
	}
}

// TestAddFull: the ninth port is refused, and each port has a number of its own.
func TestAddFull(t *testing.T) {
	s := iface.New()
	macs := []api.Mac{2, 4, 2, 1, 6 << 40, 7, 8, 254 << 40}
	mtus := []int{68, 69, 576, 1279, 1280, 1281, 1499, 1500}
	for i, name := range []string{"h", "g", "f", "e", "d", "c", "b", "a"} {
		expectAdd(t, s, name, macs[i], mtus[i], i+1)
		expectLocals(t, s, i+1)
	}
	for i, name := range []string{"h", "g", "f", "e", "d", "c", "b", "a"} {
		expectNamed(t, s, name, i+1)
		expectPort(t, s, i+1, api.Port{Name: name, Mac: macs[i], Mtu: mtus[i]})
	}
	for range 3 {
		expectNoAdd(t, s, "i", 2, 1500, api.ErrIfaceFull)
		expectNoAdd(t, s, "eth0", 100, 68, api.ErrIfaceFull)
	}
	expectNamed(t, s, "i", 0)
	expectNoPort(t, s, 9)
}

// TestAddErrorsInOrder: the name's error comes first, then the numbers', then that of the
// room.
func TestAddErrorsInOrder(t *testing.T) {
	for _, n := range []int{0, 1, 7, 8} {
		s := ports(t, n)
		names := []string{"", "9a", "A", "abcdefghi", "\xff"}
		if n > 0 {
			names = append(names, nameOf(1), nameOf(n))
		}
		for _, mac := range []api.Mac{0, 2, 3 << 40, 1 << 48} {
			for _, mtu := range []int{math.MinInt, 67, 1500, 1501} {
				for _, name := range names {
					expectNoAdd(t, s, name, mac, mtu, api.ErrIfaceName)
				}
				if mac != 2 || mtu != 1500 {
					expectNoAdd(t, s, "new", mac, mtu, api.ErrArg)
				}
			}
		}
		if n == 8 {
			expectNoAdd(t, s, "new", 2, 1500, api.ErrIfaceFull)
		} else {
			expectAdd(t, s, "new", 2, 1500, n+1)
		}
	}
}

// TestAddAgain: what was refused may be added when its fault is gone.
func TestAddAgain(t *testing.T) {
	s := ports(t, 1)
	expectNoAdd(t, s, "a", 0, 1500, api.ErrArg)
	expectNoAdd(t, s, "a", 6, 67, api.ErrArg)
	expectNamed(t, s, "a", 0)
	expectAdd(t, s, "a", 6, 68, 2)
	expectNoAdd(t, s, "a", 6, 68, api.ErrIfaceName)
	expectPort(t, s, 2, api.Port{Name: "a", Mac: 6, Mtu: 68})
}

func TestTurn(t *testing.T) {
	for n := 1; n <= 8; n++ {
		s := ports(t, n)
		for port := 1; port <= n; port++ {
			down := api.Port{Name: nameOf(port), Mac: api.Mac(2 * port), Mtu: 1500}
			up := down
			up.Up = true
			expectPort(t, s, port, down)
			for _, want := range []api.Port{down, up, up, down, down, up} {
				expectTurn(t, s, port, want.Up)
				expectPort(t, s, port, want)
			}
			for other := 1; other <= n; other++ {
				if p, _ := s.Port(other); p.Up != (other <= port) {
					t.Errorf("O1: when the ports 1 to %d were turned up, the port %d is %v", port, other, p)
				}
			}
		}
		for _, port := range noPorts(n) {
			expectNoTurn(t, s, port)
		}
		for port := 1; port <= n; port++ {
			expectTurn(t, s, port, false)
		}
		for _, port := range noPorts(n) {
			expectNoTurn(t, s, port)
		}
	}
}

// TestTurnKeepsLocals: a port's locals are the same whether it is up or down.
func TestTurnKeepsLocals(t *testing.T) {
	s := ports(t, 2)
	expectPut(t, s, 2, "10.0.0.1", 24)
	expectPut(t, s, 2, "2001:db8::1", 64)
	for _, up := range []bool{true, false, false, true} {
		expectTurn(t, s, 2, up)
		expectLocals(t, s, 2, local("10.0.0.1", 24), local("2001:db8::1", 64))
		expectMine(t, s, "10.0.0.1", 2)
	}
}

// TestAddBesides: a further port changes nothing of the others.
func TestAddBesides(t *testing.T) {
	s := ports(t, 1)
	expectTurn(t, s, 1, true)
	expectPut(t, s, 1, "10.0.0.1", 24)
	for i := 2; i <= 8; i++ {
		expectAdd(t, s, nameOf(i), 2, 100, i)
		expectPort(t, s, i, api.Port{Name: nameOf(i), Mac: 2, Mtu: 100})
		expectLocals(t, s, i)
		expectPort(t, s, 1, api.Port{Name: "p1", Mac: 2, Mtu: 1500, Up: true})
		expectLocals(t, s, 1, local("10.0.0.1", 24))
		expectNear(t, s, "10.0.0.9", 1)
		expectNamed(t, s, "p1", 1)
	}
}
