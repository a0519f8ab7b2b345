package ether_test

import (
	"math"
	"strings"
	"testing"

	"crossway/api"
	"crossway/ether"
)

// four is the IPv4 address of four bytes.
func four(a, b, c, d uint64) api.Addr {
	return api.Addr{Lo: a<<24 | b<<16 | c<<8 | d}
}

// plainArp is the bytes of an ARP message.
func plainArp(m api.Arp) string {
	return "\x00\x01\x08\x00\x06\x04" + big(uint64(m.Op), 2) +
		big(uint64(m.FromMac), 6) + big(m.From.Lo, 4) + big(uint64(m.ToMac), 6) + big(m.To.Lo, 4)
}

// goodFours are valid IPv4 addresses, and wrongFours what is none.
var (
	goodFours  = []api.Addr{{}, {Lo: 1}, four(10, 0, 0, 1), four(127, 0, 0, 1), four(128, 129, 130, 131), four(169, 254, 1, 1), four(224, 0, 0, 1), {Lo: 1<<32 - 2}, {Lo: 1<<32 - 1}}
	wrongFours = []api.Addr{
		{Lo: 1 << 32}, {Lo: 1<<32 + 1}, {Lo: 1<<32 | 10<<24}, {Lo: 1 << 63}, {Lo: math.MaxUint64},
		{Hi: 1}, {Hi: 1, Lo: 10 << 24}, {Hi: 1 << 63}, {Hi: math.MaxUint64, Lo: math.MaxUint64},
		{Six: true}, {Six: true, Lo: 1}, {Six: true, Lo: 10 << 24}, {Six: true, Hi: 0xfe80 << 48, Lo: 1}, {Six: true, Hi: math.MaxUint64, Lo: math.MaxUint64},
	}
)

// goodArps are valid messages of each Op, link-layer address and address.
func goodArps() []api.Arp {
	var found []api.Arp
	for _, op := range []int{1, 2} {
		for i, mac := range goodMacs {
			for j, a := range goodFours {
				found = append(found, api.Arp{
					Op: op, FromMac: mac, From: a,
					ToMac: goodMacs[(i+j)%len(goodMacs)], To: goodFours[(i+2*j)%len(goodFours)],
				})
			}
		}
	}
	return found
}

func expectLayArp(t *testing.T, m api.Arp, want string) {
	t.Helper()
	kept := m
	if s, e := ether.LayArp(m); s != want || e != api.OK {
		t.Errorf("E3: LayArp(%v) is %q %d, not %q", m, s, e, want)
	}
	if m != kept {
		t.Errorf("R3: the message %v has become %v", kept, m)
	}
}

func expectLayArpError(t *testing.T, m api.Arp) {
	t.Helper()
	if s, e := ether.LayArp(m); s != "" || e != api.ErrEtherForm {
		t.Errorf("E3: LayArp(%v) is %q %d", m, s, e)
	}
}

func expectTakeArp(t *testing.T, s string, want api.Arp) {
	t.Helper()
	if m, e := ether.TakeArp(s); m != want || e != api.OK {
		t.Errorf("E3: TakeArp of %d bytes %q is %v %d, not %v", len(s), start(s), m, e, want)
	}
}

func expectTakeArpError(t *testing.T, s string, want api.Errno) {
	t.Helper()
	if m, e := ether.TakeArp(s); m != (api.Arp{}) || e != want {
		t.Errorf("E3: TakeArp of %d bytes %q is %v %d, not the error %d", len(s), start(s), m, e, want)
	}
}

func TestArpExamples(t *testing.T) {
	m := api.Arp{Op: 1, FromMac: 5, From: four(10, 0, 0, 1), To: four(10, 0, 0, 2)}
	s := string([]byte{0, 1, 8, 0, 6, 4, 0, 1, 0, 0, 0, 0, 0, 5, 10, 0, 0, 1, 0, 0, 0, 0, 0, 0, 10, 0, 0, 2})
	expectLayArp(t, m, s)
	expectTakeArp(t, s, m)
	m = api.Arp{Op: 2, FromMac: 0x111213141516, From: four(21, 22, 23, 24), ToMac: 0xf1f2f3f4f5f6, To: four(201, 202, 203, 204)}
	s = string([]byte{0, 1, 8, 0, 6, 4, 0, 2, 0x11, 0x12, 0x13, 0x14, 0x15, 0x16, 21, 22, 23, 24, 0xf1, 0xf2, 0xf3, 0xf4, 0xf5, 0xf6, 201, 202, 203, 204})
	expectLayArp(t, m, s)
	expectTakeArp(t, s, m)
}

func TestLayArpValidMessages(t *testing.T) {
	for _, m := range goodArps() {
		expectLayArp(t, m, plainArp(m))
	}
}

func TestLayArpWrongMessages(t *testing.T) {
	for _, m := range goodArps() {
		for _, op := range []int{0, 3, 4, 5, 255, 256, 257, 258, -1, -2, 65535, 65536, 65537, 65538, 1<<32 + 1, 1<<32 + 2, math.MinInt, math.MinInt + 1, math.MinInt + 2, math.MaxInt} {
			wrong := m
			wrong.Op = op
			expectLayArpError(t, wrong)
		}
		for _, mac := range wrongMacs {
			wrong := m
			wrong.FromMac = mac
			expectLayArpError(t, wrong)
			wrong = m
			wrong.ToMac = mac
			expectLayArpError(t, wrong)
		}
		for _, a := range wrongFours {
			wrong := m
			wrong.From = a
			expectLayArpError(t, wrong)
			wrong = m
			wrong.To = a
			expectLayArpError(t, wrong)
			wrong.From = a
			expectLayArpError(t, wrong)
		}
	}
	expectLayArpError(t, api.Arp{})
	expectLayArpError(t, api.Arp{FromMac: 1, From: four(10, 0, 0, 1), ToMac: 2, To: four(10, 0, 0, 2)})
}

func TestTakeArpEachLength(t *testing.T) {
	s := source(6)
	for _, m := range goodArps() {
		x := plainArp(m)
		for n := range 28 {
			expectTakeArpError(t, x[:n], api.ErrEtherShort)
		}
		for _, behind := range []string{"", "\x00", "\xff", "more", x, strings.Repeat("\x00", 18), s.text(s.below(2000))} {
			expectTakeArp(t, x+behind, m)
		}
	}
	for n := range 28 {
		expectTakeArpError(t, strings.Repeat("\xff", n), api.ErrEtherShort)
		expectTakeArpError(t, strings.Repeat("\x00", n), api.ErrEtherShort)
	}
	for _, n := range []int{28, 29, 60, 1500, 1 << 20} {
		expectTakeArpError(t, strings.Repeat("\x00", n), api.ErrEtherForm)
		expectTakeArpError(t, strings.Repeat("\xff", n), api.ErrEtherForm)
		m := api.Arp{Op: 1, FromMac: 7}
		expectTakeArp(t, plainArp(m)+strings.Repeat("\xff", n), m)
	}
}

// TestTakeArpEachByte has each byte of a message as another one: behind the Op any
// may stand, ahead of it none.
func TestTakeArpEachByte(t *testing.T) {
	for _, m := range []api.Arp{{Op: 1}, {Op: 2, FromMac: 1<<48 - 1, From: api.Addr{Lo: 1<<32 - 1}, ToMac: 1<<48 - 1, To: api.Addr{Lo: 1<<32 - 1}}} {
		for at := range 28 {
			for n := range 256 {
				b := []byte(plainArp(m))
				b[at] = byte(n)
				s := string(b)
				was := plainArp(m)[at] == byte(n)
				switch {
				case was:
					expectTakeArp(t, s, m)
				case at < 7 || at == 7 && n != 1 && n != 2:
					expectTakeArpError(t, s, api.ErrEtherForm)
					expectTakeArpError(t, s+"\x00", api.ErrEtherForm)
				default:
					expectTakeArp(t, s, readArp(s))
				}
			}
		}
	}
}

// readArp is the message of 28 bytes whose first six are those of one.
func readArp(s string) api.Arp {
	return api.Arp{
		Op: int(s[6])*256 + int(s[7]), FromMac: mac(s[8:]), From: four(uint64(s[14]), uint64(s[15]), uint64(s[16]), uint64(s[17])),
		ToMac: mac(s[18:]), To: four(uint64(s[24]), uint64(s[25]), uint64(s[26]), uint64(s[27])),
	}
}

func TestTakeArpFirstNumbers(t *testing.T) {
	rest := plainArp(api.Arp{Op: 1, FromMac: 5, From: four(10, 0, 0, 1), To: four(10, 0, 0, 2)})[8:]
	for n := range 65536 {
		for _, c := range []struct {
			s     string
			right bool
		}{
			{big(uint64(n), 2) + "\x08\x00\x06\x04\x00\x01" + rest, n == 1},
			{"\x00\x01" + big(uint64(n), 2) + "\x06\x04\x00\x01" + rest, n == 2048},
			{"\x00\x01\x08\x00" + big(uint64(n), 2) + "\x00\x01" + rest, n == 6*256+4},
			{"\x00\x01\x08\x00\x06\x04" + big(uint64(n), 2) + rest, n == 1 || n == 2},
		} {
			if c.right {
				expectTakeArp(t, c.s, readArp(c.s))
			} else {
				expectTakeArpError(t, c.s, api.ErrEtherForm)
			}
		}
	}
}

func TestTakeArpUndoesLayArp(t *testing.T) {
	s := source(7)
	for range 20000 {
		m := api.Arp{
			Op: 1 + s.below(2), FromMac: api.Mac(s.next() >> 16), From: api.Addr{Lo: s.next() >> 32},
			ToMac: api.Mac(s.next() >> 16), To: api.Addr{Lo: s.next() >> 32},
		}
		laid, e := ether.LayArp(m)
		if e != api.OK || len(laid) != 28 {
			t.Fatalf("E3: LayArp(%v) is %q %d", m, laid, e)
		}
		if got, e := ether.TakeArp(laid + s.text(s.below(40))); got != m || e != api.OK {
			t.Errorf("E6: TakeArp of what LayArp made of %v is %v %d", m, got, e)
		}
		f, e := ether.Lay(api.Frame{To: m.ToMac, From: m.FromMac, Kind: api.KindArp, Data: laid})
		if e != api.OK {
			t.Fatalf("E1: a frame with %v is %d", m, e)
		}
		// The padding of a frame is behind its message.
		if back, _ := ether.Take(f); back.Data != padded(laid, 46) {
			t.Errorf("E6: the frame with %v has %q", m, back.Data)
		} else if got, e := ether.TakeArp(back.Data); got != m || e != api.OK {
			t.Errorf("E6: TakeArp of the frame with %v is %v %d", m, got, e)
		}
	}
}

func TestArpsAreIndependent(t *testing.T) {
	want := api.Arp{Op: 2, FromMac: 3, From: four(1, 2, 3, 4), ToMac: 4, To: four(5, 6, 7, 8)}
	s, _ := ether.LayArp(want)
	b := []byte(s)
	x, _ := ether.TakeArp(string(b))
	y, _ := ether.TakeArp(string(b))
	for i := range b {
		b[i] = 'X'
	}
	x.Op, x.FromMac, x.From.Lo, x.ToMac, x.To.Six = 9, 9, 9, 9, true
	if y != want {
		t.Errorf("R3: a message that was written over changes another one: %v", y)
	}
	expectLayArp(t, want, s)
	expectTakeArp(t, s, want)
}

// TestArpsOfAnyBytes gives the calls whatever may be given to them.
func TestArpsOfAnyBytes(t *testing.T) {
	s := source(8)
	for range 50000 {
		x := s.text(s.below(60))
		if len(x) < 28 {
			expectTakeArpError(t, x, api.ErrEtherShort)
			continue
		}
		expectTakeArpError(t, "\x00\x01\x08\x00\x04\x06"+x, api.ErrEtherForm)
		x = "\x00\x01\x08\x00\x06\x04\x00\x02" + x
		expectTakeArp(t, x, readArp(x))
	}
	for range 50000 {
		m := api.Arp{
			Op: s.below(5) - 1, FromMac: api.Mac(s.next() >> (s.below(3) * 16)), ToMac: api.Mac(s.next() >> (s.below(3) * 16)),
			From: api.Addr{Six: s.below(4) == 0, Hi: s.next() >> (32 + s.below(33)), Lo: s.next() >> (s.below(3) * 32)},
			To:   api.Addr{Six: s.below(4) == 0, Lo: s.next() >> (s.below(2) * 32)},
		}
		good := (m.Op == 1 || m.Op == 2) && m.FromMac < 1<<48 && m.ToMac < 1<<48 &&
			!m.From.Six && m.From.Hi == 0 && m.From.Lo < 1<<32 && !m.To.Six && m.To.Hi == 0 && m.To.Lo < 1<<32
		if good {
			expectLayArp(t, m, plainArp(m))
		} else {
			expectLayArpError(t, m)
		}
	}
}
