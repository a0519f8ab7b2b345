package ip6_test

import (
	"math"
	"slices"
	"strings"
	"testing"
	"unsafe"

	"crossway/api"
	"crossway/ip6"
)

// source tells numbers that look like chance, the same ones in each run.
type source uint64

func (s *source) next() uint64 {
	*s = *s*6364136223846793005 + 1442695040888963407
	return uint64(*s ^ *s>>29)
}

func (s *source) below(n int) int { return int(s.next() >> 11 % uint64(n)) }

// text is so many bytes that look like chance.
func (s *source) text(n int) string {
	b := make([]byte, n)
	for i := range b {
		b[i] = byte(s.next() >> 20)
	}
	return string(b)
}

// start is the beginning of a text, to be told.
func start(s string) string {
	return s[:min(len(s), 80)]
}

// brief is a packet with the beginning of its Data, to be told.
func brief(p api.Six) api.Six {
	p.Data = start(p.Data)
	return p
}

// big is a number in so many bytes, the most significant one first.
func big(n uint64, width int) string {
	b := make([]byte, width)
	for i := range b {
		b[i] = byte(n >> (8 * (width - 1 - i)))
	}
	return string(b)
}

// number is that of at most eight bytes.
func number(s string) uint64 {
	var n uint64
	for i := range len(s) {
		n = n*256 + uint64(s[i])
	}
	return n
}

// six is an IPv6 address.
func six(hi, lo uint64) api.Addr {
	return api.Addr{Six: true, Hi: hi, Lo: lo}
}

// head is the header of a packet with a length of Data.
func head(p api.Six, size int) string {
	first := 6*(1<<28) + p.Class*(1<<20) + p.Flow
	return big(uint64(first), 4) + big(uint64(size), 2) + big(uint64(p.Next), 1) + big(uint64(p.Hops), 1) +
		big(p.From.Hi, 8) + big(p.From.Lo, 8) + big(p.To.Hi, 8) + big(p.To.Lo, 8)
}

// plain is the bytes of a valid packet.
func plain(p api.Six) string {
	return head(p, len(p.Data)) + p.Data
}

// plainTake is what G2 says of some bytes, one sentence after the other.
func plainTake(s string) (api.Six, api.Errno) {
	if len(s) < 40 {
		return api.Six{}, api.ErrSixShort
	}
	if s[0] < 6*16 || s[0] >= 7*16 {
		return api.Six{}, api.ErrSixForm
	}
	size := int(s[4])*256 + int(s[5])
	if len(s)-40 < size {
		return api.Six{}, api.ErrSixShort
	}
	return api.Six{
		Class: int(s[0])%16*16 + int(s[1])/16, Flow: int(s[1])%16*65536 + int(s[2])*256 + int(s[3]),
		Next: int(s[6]), Hops: int(s[7]),
		From: six(number(s[8:16]), number(s[16:24])), To: six(number(s[24:32]), number(s[32:40])),
		Data: s[40 : 40+size],
	}, api.OK
}

func expectLay(t *testing.T, p api.Six, want string) {
	t.Helper()
	kept := p
	if s, e := ip6.Lay(p); s != want || e != api.OK {
		t.Errorf("G1: Lay of %#v is %d bytes %q %d, not %d bytes %q", brief(p), len(s), start(s), e, len(want), start(want))
	}
	if p != kept {
		t.Errorf("R3: the packet %#v has become %#v", brief(kept), brief(p))
	}
}

func expectLayError(t *testing.T, p api.Six, want api.Errno) {
	t.Helper()
	if s, e := ip6.Lay(p); s != "" || e != want {
		t.Errorf("G1: Lay of %#v, %d bytes of Data, is %q %d, not the error %d", brief(p), len(p.Data), start(s), e, want)
	}
}

func expectTake(t *testing.T, s string, want api.Six) {
	t.Helper()
	if p, e := ip6.Take(s); p != want || e != api.OK {
		t.Errorf("G2: Take of %d bytes %q is %#v %d, not %#v", len(s), start(s), brief(p), e, brief(want))
	}
}

func expectTakeError(t *testing.T, s string, want api.Errno) {
	t.Helper()
	if p, e := ip6.Take(s); p != (api.Six{}) || e != want {
		t.Errorf("G2: Take of %d bytes %q is %#v %d, not the error %d", len(s), start(s), brief(p), e, want)
	}
	if h, e := ip6.Hop(s); h != "" || e != want {
		t.Errorf("G5: Hop of %d bytes %q is %q %d, not the error %d", len(s), start(s), start(h), e, want)
	}
}

// small is the packet of the chapter's first example.
func small() api.Six {
	return api.Six{Class: 1, Flow: 2, Next: 59, Hops: 64, From: six(0, 1), To: six(0, 2)}
}

// full is a packet whose bytes all differ from those beside them.
func full() api.Six {
	return api.Six{
		Class: 0xb8, Flow: 0x13579, Next: 6, Hops: 200,
		From: six(0x20010db801020304, 0x05060708090a0b0c), To: six(0xfe80111213141516, 0x1718191a1b1c1d1e),
		Data: "some data",
	}
}

// The places of a packet's parts.
func class(p *api.Six) *int     { return &p.Class }
func flow(p *api.Six) *int      { return &p.Flow }
func next(p *api.Six) *int      { return &p.Next }
func hops(p *api.Six) *int      { return &p.Hops }
func from(p *api.Six) *api.Addr { return &p.From }
func to(p *api.Six) *api.Addr   { return &p.To }

// with is packets that have each of some values at each of some places.
func with[T any](base api.Six, values []T, places ...func(*api.Six) *T) []api.Six {
	var found []api.Six
	for _, value := range values {
		for _, place := range places {
			p := base
			*place(&p) = value
			found = append(found, p)
		}
	}
	return found
}

// least is a valid packet of zeros alone.
func least() api.Six {
	return api.Six{From: six(0, 0), To: six(0, 0)}
}

// edges are packets with each of their numbers at its ends.
func edges() []api.Six {
	var found []api.Six
	for _, base := range []api.Six{least(), small(), full()} {
		found = slices.Concat(found, []api.Six{base},
			with(base, []int{0, 1, 15, 16, 127, 128, 240, 254, 255}, class, next, hops),
			with(base, []int{0, 1, 255, 256, 65535, 65536, 1<<19 - 1, 1 << 19, 1<<20 - 2, 1<<20 - 1}, flow),
			with(base, []api.Addr{
				six(0, 0), six(0, 1), six(1, 0), six(0, 1<<63), six(1<<63, 0), six(0, 1<<32), six(0, 10<<24|1),
				six(0xfe80<<48, 1), six(0xff02<<48, 1), six(math.MaxUint64, 0), six(0, math.MaxUint64), six(math.MaxUint64, math.MaxUint64),
			}, from, to),
		)
	}
	return found
}

func TestLayExample(t *testing.T) {
	ends := strings.Repeat("\x00", 15) + "\x01" + strings.Repeat("\x00", 15) + "\x02"
	s := "\x60\x10\x00\x02\x00\x00\x3b\x40" + ends
	expectLay(t, small(), s)
	expectTake(t, s, small())
	if h, e := ip6.Hop(s); h != "\x60\x10\x00\x02\x00\x00\x3b\x3f"+ends || e != api.OK {
		t.Errorf("G5: Hop of the example is %q %d", h, e)
	}
	s = string([]byte{
		0x6b, 0x81, 0x35, 0x79, 0, 9, 6, 200,
		0x20, 0x01, 0x0d, 0xb8, 1, 2, 3, 4, 5, 6, 7, 8, 9, 10, 11, 12,
		0xfe, 0x80, 0x11, 0x12, 0x13, 0x14, 0x15, 0x16, 0x17, 0x18, 0x19, 0x1a, 0x1b, 0x1c, 0x1d, 0x1e,
	}) + "some data"
	expectLay(t, full(), s)
	expectTake(t, s, full())
}

func TestLayEdges(t *testing.T) {
	for _, p := range edges() {
		expectLay(t, p, plain(p))
	}
}

// TestLayFirstNumber has the first four bytes, of which two parts share one.
func TestLayFirstNumber(t *testing.T) {
	for _, c := range []struct {
		class, flow int
		want        string
	}{
		{0, 0, "\x60\x00\x00\x00"}, {1, 0, "\x60\x10\x00\x00"}, {15, 0, "\x60\xf0\x00\x00"}, {16, 0, "\x61\x00\x00\x00"},
		{240, 0, "\x6f\x00\x00\x00"}, {255, 0, "\x6f\xf0\x00\x00"}, {0, 1, "\x60\x00\x00\x01"}, {0, 0x10000, "\x60\x01\x00\x00"},
		{0, 1<<20 - 1, "\x60\x0f\xff\xff"}, {255, 1<<20 - 1, "\x6f\xff\xff\xff"}, {0x12, 0x34567, "\x61\x23\x45\x67"}, {0xa5, 0x80001, "\x6a\x58\x00\x01"},
	} {
		p := small()
		p.Class, p.Flow = c.class, c.flow
		if s, e := ip6.Lay(p); e != api.OK || s[:4] != c.want {
			t.Errorf("G1: of Class %d, Flow %d Lay makes %q %d", c.class, c.flow, start(s), e)
		}
		expectTake(t, plain(p), p)
	}
}

func TestLayEachLength(t *testing.T) {
	for _, p := range []api.Six{least(), small(), full()} {
		for _, n := range []int{0, 1, 2, 255, 256, 257, 32767, 32768, 65495, 65496, 65534, 65535} {
			p.Data = strings.Repeat("\xfe", n)
			expectLay(t, p, plain(p))
			if s, e := ip6.Lay(p); len(s) != 40+n || e != api.OK || s[4:6] != big(uint64(n), 2) {
				t.Errorf("G1: a packet with %d bytes of Data has %d, %q, %d", n, len(s), start(s), e)
			}
		}
		for _, n := range []int{65536, 65537, 65576, 131071, 131072, 1 << 20} {
			p.Data = strings.Repeat("\x00", n)
			expectLayError(t, p, api.ErrSixLong)
		}
	}
}

func TestLayEachByte(t *testing.T) {
	b := make([]byte, 256)
	for i := range b {
		b[i] = byte(i)
	}
	for _, data := range []string{string(b), string(b[1:]), string(b[128:]), "\xff", "\x80\xc3\x28", "\u00e4\u65e5\U0001f600", "\x00\x00x", "x\x00\x00"} {
		p := full()
		p.Data = data
		expectLay(t, p, plain(p))
		expectTake(t, plain(p), p)
	}
}

// wrongPackets are packets with one fault each.
func wrongPackets(base api.Six) []api.Six {
	return slices.Concat(
		with(base, []int{-1, -255, -256, 256, 257, 511, 512, 65535, 65536, 1 << 20, 1 << 32, math.MinInt, math.MinInt + 64, math.MaxInt}, class, next, hops),
		with(base, []int{-1, 1 - 1<<20, -1 << 20, 1 << 20, 1<<20 + 1, 1<<21 - 1, 1 << 21, 1 << 28, 1 << 32, math.MinInt, math.MinInt + 64, math.MaxInt}, flow),
		with(base, []api.Addr{
			{}, {Lo: 1}, {Lo: 10<<24 | 1}, {Lo: 1<<32 - 1}, {Lo: 1 << 32}, {Lo: math.MaxUint64},
			{Hi: 1}, {Hi: 1 << 63}, {Hi: 0xfe80 << 48, Lo: 1}, {Hi: math.MaxUint64, Lo: math.MaxUint64},
		}, from, to),
	)
}

// TestLayFaults has packets with one fault, and with several: one of the form comes
// ahead of the length.
func TestLayFaults(t *testing.T) {
	for _, base := range []api.Six{least(), small(), full()} {
		for _, n := range []int{0, 8, 65535, 65536} {
			base.Data = strings.Repeat("\x01", n)
			for _, p := range wrongPackets(base) {
				expectLayError(t, p, api.ErrSixForm)
			}
		}
	}
	expectLayError(t, api.Six{}, api.ErrSixForm)
	all := api.Six{Class: 256, Flow: -1, Next: -1, Hops: 256, From: api.Addr{Lo: 1}, To: api.Addr{Hi: 1}, Data: strings.Repeat("\x01", 65536)}
	expectLayError(t, all, api.ErrSixForm)
}

func TestTakeEdges(t *testing.T) {
	for _, p := range edges() {
		s := plain(p)
		expectTake(t, s, p)
		for _, behind := range []string{"\x00", "\xff", "behind", s, strings.Repeat("\x00", 70000)} {
			expectTake(t, s+behind, p)
		}
		// Of what is cut anywhere, too few bytes are there.
		for n := range len(s) {
			expectTakeError(t, s[:n], api.ErrSixShort)
		}
	}
}

func TestTakeFewBytes(t *testing.T) {
	for n := range 40 {
		for _, fill := range []string{"\x00", "\x60", "\x6f", "\xff"} {
			expectTakeError(t, strings.Repeat(fill, n), api.ErrSixShort)
		}
	}
	expectTake(t, "\x60"+strings.Repeat("\x00", 39), least())
	expectTakeError(t, "\x60"+strings.Repeat("\x00", 38), api.ErrSixShort)
	expectTakeError(t, strings.Repeat("\x60", 40), api.ErrSixShort)
	expectTakeError(t, strings.Repeat("\x00", 40), api.ErrSixForm)
	expectTakeError(t, strings.Repeat("\x00", 1<<20), api.ErrSixForm)
	expectTakeError(t, strings.Repeat("\xff", 1<<20), api.ErrSixForm)
}

// TestTakeFirstByte has each first byte, with as many bytes as there should be, with
// fewer, and with more.
func TestTakeFirstByte(t *testing.T) {
	for first := range 256 {
		for _, p := range []api.Six{small(), full()} {
			p.Class = first%16*16 + p.Class%16
			s := string([]byte{byte(first)}) + plain(p)[1:]
			if first < 0x60 || first > 0x6f {
				expectTakeError(t, s, api.ErrSixForm)
				expectTakeError(t, s+"behind", api.ErrSixForm)
				expectTakeError(t, s[:40], api.ErrSixForm)
			} else {
				expectTake(t, s, p)
				expectTake(t, s+"behind", p)
			}
			expectTakeError(t, s[:39], api.ErrSixShort)
		}
	}
}

// TestTakeEachByte has each byte of some packets as each other one.
func TestTakeEachByte(t *testing.T) {
	for _, p := range []api.Six{least(), small(), full()} {
		s := plain(p)
		for at := range s {
			for n := range 256 {
				x := s[:at] + string([]byte{byte(n)}) + s[at+1:]
				want, e := plainTake(x)
				if e != api.OK {
					expectTakeError(t, x, e)
					continue
				}
				expectTake(t, x, want)
				if back, e := ip6.Lay(want); back != x[:40+len(want.Data)] || e != api.OK {
					t.Errorf("G6: Lay of what Take made of %q is %q %d", x, back, e)
				}
			}
		}
	}
}

func TestTakeEachLength(t *testing.T) {
	p := full()
	data := strings.Repeat("0123456789", 30)
	for size := range 65536 {
		s := head(p, size) + data
		if size > len(data) {
			if size < 400 || size%251 == 0 || size > 65500 {
				expectTakeError(t, s, api.ErrSixShort)
			}
			continue
		}
		p.Data = data[:size]
		expectTake(t, s, p)
		expectTake(t, s[:40+size], p)
		if size > 0 {
			expectTakeError(t, s[:40+size-1], api.ErrSixShort)
		}
	}
	p.Data = strings.Repeat("d", 65535)
	expectTake(t, plain(p), p)
	expectTake(t, plain(p)+"behind", p)
	expectTakeError(t, plain(p)[:40+65534], api.ErrSixShort)
}

// TestTakeFaults has bytes with several faults: which error comes first.
func TestTakeFaults(t *testing.T) {
	s := plain(full())
	for _, first := range []string{"\x00", "\x45", "\x50", "\x5f", "\x70", "\xff"} {
		x := first + s[1:]
		expectTakeError(t, x, api.ErrSixForm)
		expectTakeError(t, x[:len(x)-1], api.ErrSixForm)
		expectTakeError(t, x[:40], api.ErrSixForm)
		expectTakeError(t, x[:39], api.ErrSixShort)
		expectTakeError(t, x[:1], api.ErrSixShort)
	}
	expectTakeError(t, "", api.ErrSixShort)
}

// packet is one that looks like chance.
func (s *source) packet() api.Six {
	return api.Six{
		Class: s.below(256), Flow: s.below(1 << 20), Next: s.below(256), Hops: s.below(256),
		From: six(s.next(), s.next()), To: six(s.next(), s.next()), Data: s.text(s.below(60)),
	}
}

func TestTakeUndoesLay(t *testing.T) {
	s := source(1)
	for range 20000 {
		p := s.packet()
		laid, e := ip6.Lay(p)
		if e != api.OK || laid != plain(p) {
			t.Fatalf("G1: Lay of %#v is %q %d", p, laid, e)
		}
		behind := s.text(s.below(3) * s.below(40))
		if got, e := ip6.Take(laid + behind); got != p || e != api.OK {
			t.Errorf("G6: Take of what Lay made of %#v, with %q behind, is %#v %d", p, behind, got, e)
		}
	}
}

// TestTakeAnyBytes gives the calls whatever may be given to them, and lays again what
// was taken.
func TestTakeAnyBytes(t *testing.T) {
	s := source(2)
	for range 50000 {
		x := s.text(s.below(120))
		if len(x) >= 6 && s.below(8) > 0 {
			x = big(uint64(0x60+s.below(16)), 1) + x[1:4] + big(uint64(s.below(90)), 2) + x[6:]
		}
		want, e := plainTake(x)
		if e != api.OK {
			expectTakeError(t, x, e)
			continue
		}
		expectTake(t, x, want)
		p, _ := ip6.Take(x)
		if back, e := ip6.Lay(p); back != x[:40+len(p.Data)] || e != api.OK {
			t.Errorf("G6: Lay of what Take made of %q is %q %d", x, back, e)
		}
	}
}

func TestLayAnyPacket(t *testing.T) {
	s := source(3)
	near := func(most int) int {
		switch s.below(20) {
		case 0:
			return -1 - s.below(2)
		case 1:
			return most + 1 + s.below(2)
		case 2:
			return int(s.next())
		}
		return s.below(most + 1)
	}
	for range 50000 {
		p := s.packet()
		p.Class, p.Flow, p.Next, p.Hops = near(255), near(1<<20-1), near(255), near(255)
		p.From.Six, p.To.Six = s.below(10) > 0, s.below(10) > 0
		good := p.From.Six && p.To.Six && p.Flow >= 0 && p.Flow < 1<<20
		for _, n := range []int{p.Class, p.Next, p.Hops} {
			good = good && n >= 0 && n <= 255
		}
		if good {
			expectLay(t, p, plain(p))
		} else {
			expectLayError(t, p, api.ErrSixForm)
		}
	}
}

// hostOf is a text's bytes as a text that shares their memory, which nothing but such
// a trick can make.
func hostOf(b []byte) string { return unsafe.String(&b[0], len(b)) }

// TestPacketsKeepNoBytes writes over the memory of the texts that were given: no
// result may change with it.
func TestPacketsKeepNoBytes(t *testing.T) {
	p := full()
	b := []byte(plain(p))
	took, _ := ip6.Take(hostOf(b))
	hopped, _ := ip6.Hop(hostOf(b))
	if string(b) != plain(full()) {
		t.Errorf("R3: the bytes that were given have become %q", b)
	}
	data := []byte(p.Data)
	p.Data = hostOf(data)
	laid, _ := ip6.Lay(p)
	for _, x := range [][]byte{b, data} {
		for i := range x {
			x[i] = 'X'
		}
	}
	if took != full() {
		t.Errorf("R3: a packet shares its bytes with what Take was given: %#v", took)
	}
	if laid != plain(full()) {
		t.Errorf("R3: the bytes of a packet are shared with what Lay was given: %q", laid)
	}
	p = full()
	p.Hops--
	if hopped != plain(p) {
		t.Errorf("R3: the bytes of a packet are shared with what Hop was given: %q", hopped)
	}
}

func TestPacketsAreIndependent(t *testing.T) {
	s := plain(full())
	x, _ := ip6.Take(s)
	y, _ := ip6.Take(s)
	x.Class, x.From.Six, x.To.Hi, x.Data = 9, false, 1, "x"
	if y != full() {
		t.Errorf("R3: a packet that was written over changes another one: %#v", y)
	}
	expectTake(t, s, full())
	expectLay(t, full(), s)
}
