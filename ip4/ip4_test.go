package ip4_test

import (
	"math"
	"slices"
	"strings"
	"testing"
	"unsafe"

	"crossway/api"
	"crossway/ip4"
)

// source tells numbers that look like chance, the same ones in each run.
type source uint64

func (s *source) next() uint64 {
	*s = *s*6364136223846793005 + 1442695040888963407
	return uint64(*s ^ *s>>29)
}

func (s *source) below(n int) int { return int(s.next() >> 11 % uint64(n)) }

// text is so many bytes that look like chance.
func (s *source) text(n int) string {
	b := make([]byte, n)
	for i := range b {
		b[i] = byte(s.next() >> 20)
	}
	return string(b)
}

// start is the beginning of a text, to be told.
func start(s string) string {
	return s[:min(len(s), 80)]
}

// big is a number in so many bytes, the most significant one first.
func big(n, width int) string {
	b := make([]byte, width)
	for i := range b {
		b[i] = byte(n >> (8 * (width - 1 - i)))
	}
	return string(b)
}

// four is the IPv4 address of four bytes.
func four(a, b, c, d uint64) api.Addr {
	return api.Addr{Lo: a<<24 | b<<16 | c<<8 | d}
}

// rest is what is left of the words of a text of an even length, divided by 65535:
// nothing of a header whose checksum is right.
func rest(s string) int {
	n := 0
	for i := 0; i < len(s); i += 2 {
		n += int(s[i])<<8 | int(s[i+1])
	}
	return n % 65535
}

// summed is a header with the checksum that it should have.
func summed(head string) string {
	bare := head[:10] + "\x00\x00" + head[12:]
	return head[:10] + big((65535-rest(bare))%65535, 2) + head[12:]
}

// bare is the header of a packet with a checksum of 0, of so many bytes in total.
func bare(p api.Four, total int) string {
	part := p.Off
	if p.Df {
		part += 16384
	}
	if p.Mf {
		part += 8192
	}
	return big(64+(20+len(p.Options))/4, 1) + big(p.Tos, 1) + big(total, 2) +
		big(p.ID, 2) + big(part, 2) + big(p.Ttl, 1) + big(p.Proto, 1) + "\x00\x00" +
		big(int(p.From.Lo), 4) + big(int(p.To.Lo), 4) + p.Options
}

// plain is the bytes of a valid packet.
func plain(p api.Four) string {
	return summed(bare(p, 20+len(p.Options)+len(p.Data))) + p.Data
}

// patched is the bytes of a packet with other bytes at a place of its header, and the
// checksum of these.
func patched(p api.Four, at int, bytes string) string {
	s := plain(p)
	s = s[:at] + bytes + s[at+len(bytes):]
	size := 20 + len(p.Options)
	return summed(s[:size]) + s[size:]
}

// plainTake is what F2 says of some bytes, one sentence after the other.
func plainTake(s string) (api.Four, api.Errno) {
	if len(s) < 20 {
		return api.Four{}, api.ErrFourShort
	}
	if s[0] < 69 || s[0] > 79 {
		return api.Four{}, api.ErrFourForm
	}
	size := 4 * (int(s[0]) - 64)
	if len(s) < size {
		return api.Four{}, api.ErrFourShort
	}
	if rest(s[:size]) != 0 {
		return api.Four{}, api.ErrFourSum
	}
	total := int(s[2])*256 + int(s[3])
	if total < size || s[6] >= 128 {
		return api.Four{}, api.ErrFourForm
	}
	if len(s) < total {
		return api.Four{}, api.ErrFourShort
	}
	if _, ok := plainOptions(s[20:size]); !ok {
		return api.Four{}, api.ErrFourForm
	}
	return api.Four{
		Tos: int(s[1]), ID: int(s[4])*256 + int(s[5]),
		Df: s[6]/64%2 == 1, Mf: s[6]/32%2 == 1, Off: int(s[6])%32*256 + int(s[7]),
		Ttl: int(s[8]), Proto: int(s[9]),
		From:    four(uint64(s[12]), uint64(s[13]), uint64(s[14]), uint64(s[15])),
		To:      four(uint64(s[16]), uint64(s[17]), uint64(s[18]), uint64(s[19])),
		Options: s[20:size], Data: s[size:total],
	}, api.OK
}

func expectLay(t *testing.T, p api.Four, want string) {
	t.Helper()
	kept := p
	if s, e := ip4.Lay(p); s != want || e != api.OK {
		t.Errorf("F1: Lay of %#v is %d bytes %q %d, not %d bytes %q", brief(p), len(s), start(s), e, len(want), start(want))
	}
	if p != kept {
		t.Errorf("R3: the packet %#v has become %#v", brief(kept), brief(p))
	}
}

func expectLayError(t *testing.T, p api.Four, want api.Errno) {
	t.Helper()
	if s, e := ip4.Lay(p); s != "" || e != want {
		t.Errorf("F1: Lay of %#v, %d bytes of Data, is %q %d, not the error %d", brief(p), len(p.Data), start(s), e, want)
	}
}

func expectTake(t *testing.T, s string, want api.Four) {
	t.Helper()
	if p, e := ip4.Take(s); p != want || e != api.OK {
		t.Errorf("F2: Take of %d bytes %q is %#v %d, not %#v", len(s), start(s), brief(p), e, brief(want))
	}
}

func expectTakeError(t *testing.T, s string, want api.Errno) {
	t.Helper()
	if p, e := ip4.Take(s); p != (api.Four{}) || e != want {
		t.Errorf("F2: Take of %d bytes %q is %#v %d, not the error %d", len(s), start(s), brief(p), e, want)
	}
	if h, e := ip4.Hop(s); h != "" || e != want {
		t.Errorf("F4: Hop of %d bytes %q is %q %d, not the error %d", len(s), start(s), start(h), e, want)
	}
}

// brief is a packet with the beginning of its Data, to be told.
func brief(p api.Four) api.Four {
	p.Data = start(p.Data)
	return p
}

// small is the packet of the chapter's first example.
func small() api.Four {
	return api.Four{Ttl: 64, Proto: 17, From: four(10, 0, 0, 1), To: four(10, 0, 0, 2), Data: strings.Repeat("\x00", 8)}
}

// full is a packet with no number of 0.
func full() api.Four {
	return api.Four{
		Tos: 184, ID: 0xa1b2, Df: true, Mf: true, Off: 0x1357, Ttl: 200, Proto: 6,
		From: four(192, 168, 201, 7), To: four(1, 2, 3, 4),
		Options: "\x01\x83\x07\x04\x05\x06\x07\x08", Data: "some data",
	}
}

// The places of a packet's parts.
func tos(p *api.Four) *int        { return &p.Tos }
func ttl(p *api.Four) *int        { return &p.Ttl }
func proto(p *api.Four) *int      { return &p.Proto }
func id(p *api.Four) *int         { return &p.ID }
func off(p *api.Four) *int        { return &p.Off }
func from(p *api.Four) *api.Addr  { return &p.From }
func to(p *api.Four) *api.Addr    { return &p.To }
func options(p *api.Four) *string { return &p.Options }

// with is packets that have each of some values at each of some places.
func with[T any](base api.Four, values []T, places ...func(*api.Four) *T) []api.Four {
	var found []api.Four
	for _, value := range values {
		for _, place := range places {
			p := base
			*place(&p) = value
			found = append(found, p)
		}
	}
	return found
}

// edges are packets with each of their numbers at its ends, and options of each
// length.
func edges() []api.Four {
	found := []api.Four{{}, small(), full()}
	for _, base := range []api.Four{small(), full()} {
		found = slices.Concat(found,
			with(base, []int{0, 1, 127, 128, 254, 255}, tos, ttl, proto),
			with(base, []int{0, 1, 255, 256, 32767, 32768, 65534, 65535}, id),
			with(base, []api.Addr{{}, {Lo: 1}, four(0, 0, 1, 0), four(127, 0, 0, 1), four(128, 0, 0, 0), four(224, 0, 0, 5), {Lo: 1<<32 - 2}, {Lo: 1<<32 - 1}}, from, to),
			with(base, goodOptions(), options),
		)
		for flags := range 4 {
			base.Df, base.Mf = flags&1 == 1, flags&2 == 2
			found = append(found, with(base, []int{0, 1, 255, 256, 4095, 4096, 8190, 8191}, off)...)
		}
	}
	return found
}

// goodOptions are valid options that a packet may have, of each length.
func goodOptions() []string {
	var found []string
	for n := 0; n <= 40; n += 4 {
		found = append(found, strings.Repeat("\x01", n), strings.Repeat("\x00", n), strings.Repeat("\x94\x02", n/2))
		if n > 0 {
			found = append(found,
				"\x07"+string(rune(n))+strings.Repeat("\x03", n-2),
				strings.Repeat("\x01", n-1)+"\x00",
				strings.Repeat("\x01", n-3)+"\x00\x07\x01",
				"\x88\x04\x01\x02"+strings.Repeat("\x00", n-4),
			)
		}
	}
	return found
}

// wrongOptions are what a packet cannot have as options.
func wrongOptions() []string {
	found := []string{
		"\x07\x01\x00\x00", "\x07\x00\x00\x00", "\x07\x05\x00\x00", "\x07\xff\x00\x00", "\x01\x01\x01\x07", "\xff\xff\xff\xff",
		"\x01\x07\x04\x00", "\x02\x03\x01\x94", "\x83\x03\x00\x83\x03\x00\x83\x03",
	}
	for n := 1; n <= 48; n++ {
		if n%4 != 0 || n > 40 {
			found = append(found, strings.Repeat("\x01", n), strings.Repeat("\x00", n), "\x07"+string(rune(n))+strings.Repeat("\x00", max(n-2, 0)))
		} else {
			found = append(found, strings.Repeat("\x01", n-1)+"\x07", strings.Repeat("\x01", n-2)+"\x07\x03")
		}
	}
	return append(found, strings.Repeat("\x01", 1<<20), strings.Repeat("\x00", 1<<20))
}

func TestLayExample(t *testing.T) {
	s := string([]byte{69, 0, 0, 28, 0, 0, 0, 0, 64, 17, 102, 207, 10, 0, 0, 1, 10, 0, 0, 2}) + strings.Repeat("\x00", 8)
	expectLay(t, small(), s)
	expectTake(t, s, small())
	hopped := s[:8] + string([]byte{63, 17, 103, 207}) + s[12:]
	if h, e := ip4.Hop(s); h != hopped || e != api.OK {
		t.Errorf("F4: Hop of the example is %q %d", h, e)
	}
	s = string([]byte{
		71, 184, 0, 37, 0xa1, 0xb2, 0x73, 0x57, 200, 6, 0x38, 0xc6, 192, 168, 201, 7, 1, 2, 3, 4,
		1, 0x83, 7, 4, 5, 6, 7, 8,
	}) + "some data"
	expectLay(t, full(), s)
	expectTake(t, s, full())
	expectTakeError(t, s[:19], api.ErrFourShort)
	expectTakeError(t, s[:8]+"A"+s[9:], api.ErrFourSum)
	expectTakeError(t, "D"+s[1:], api.ErrFourForm)
}

func TestLayEdges(t *testing.T) {
	for _, p := range edges() {
		expectLay(t, p, plain(p))
	}
}

// TestLayFlags has the two bytes with Off bit by bit.
func TestLayFlags(t *testing.T) {
	for _, c := range []struct {
		df, mf bool
		off    int
		want   string
	}{
		{false, false, 0, "\x00\x00"}, {true, false, 0, "\x40\x00"}, {false, true, 0, "\x20\x00"}, {true, true, 0, "\x60\x00"},
		{false, false, 5, "\x00\x05"}, {true, false, 5, "\x40\x05"}, {false, true, 5, "\x20\x05"}, {true, true, 5, "\x60\x05"},
		{false, false, 8191, "\x1f\xff"}, {true, false, 8191, "\x5f\xff"}, {false, true, 8191, "\x3f\xff"}, {true, true, 8191, "\x7f\xff"},
	} {
		p := small()
		p.Df, p.Mf, p.Off = c.df, c.mf, c.off
		if s, e := ip4.Lay(p); e != api.OK || s[6:8] != c.want {
			t.Errorf("F1: of Df %t, Mf %t, Off %d Lay makes %q %d", c.df, c.mf, c.off, start(s), e)
		}
	}
}

func TestLayEachLength(t *testing.T) {
	for _, options := range []string{"", "\x01\x01\x01\x01", strings.Repeat("\x01", 40)} {
		p := small()
		p.Options = options
		for _, total := range []int{20 + len(options), 21 + len(options), 255, 256, 257, 32767, 32768, 65534, 65535} {
			p.Data = strings.Repeat("\xfe", total-20-len(options))
			expectLay(t, p, plain(p))
			if s, e := ip4.Lay(p); len(s) != total || e != api.OK || s[2:4] != big(total, 2) {
				t.Errorf("F1: a packet of %d bytes has %d, %q, %d", total, len(s), start(s), e)
			}
		}
		for _, total := range []int{65536, 65537, 65600, 131072, 1 << 20} {
			p.Data = strings.Repeat("\x00", total-20-len(options))
			expectLayError(t, p, api.ErrFourLong)
		}
	}
}

func TestLayEachByte(t *testing.T) {
	b := make([]byte, 256)
	for i := range b {
		b[i] = byte(i)
	}
	for _, data := range []string{string(b), string(b[1:]), string(b[128:]), "\xff", "\x80\xc3\x28", "\u00e4\u65e5\U0001f600", "\x00\x00x", "x\x00\x00"} {
		p := full()
		p.Data = data
		expectLay(t, p, plain(p))
		expectTake(t, plain(p), p)
	}
}

// wrongPackets are packets with one fault each.
func wrongPackets(base api.Four) []api.Four {
	return slices.Concat(
		with(base, []int{-1, -255, -256, 256, 257, 511, 512, 65535, 65536, 1 << 32, math.MinInt, math.MinInt + 64, math.MaxInt}, tos, ttl, proto),
		with(base, []int{-1, -65535, -65536, 65536, 65537, 131071, 1 << 32, math.MinInt, math.MinInt + 64, math.MaxInt}, id),
		with(base, []int{-1, -8191, -8192, 8192, 8193, 16383, 16384, 32768, 65535, 65536, 1 << 32, math.MinInt, math.MaxInt}, off),
		with(base, []api.Addr{
			{Lo: 1 << 32}, {Lo: 1<<32 | 10<<24}, {Lo: math.MaxUint64}, {Hi: 1}, {Hi: 1, Lo: 10 << 24}, {Hi: 1 << 63},
			{Six: true}, {Six: true, Lo: 10 << 24}, {Six: true, Hi: 0xfe80 << 48, Lo: 1}, {Six: true, Hi: math.MaxUint64, Lo: math.MaxUint64},
		}, from, to),
		with(base, wrongOptions(), options),
	)
}

// TestLayFaults has packets with one fault, and with several: one of the form comes
// ahead of the length.
func TestLayFaults(t *testing.T) {
	for _, base := range []api.Four{{}, small(), full()} {
		for _, n := range []int{0, 8, 65476, 65516, 65536} {
			base.Data = strings.Repeat("\x01", n)
			for _, p := range wrongPackets(base) {
				expectLayError(t, p, api.ErrFourForm)
			}
		}
	}
	// All at once, with more Data than there may be behind such a header.
	p := api.Four{Options: strings.Repeat("\x01", 44), Data: strings.Repeat("\x01", 65500), Tos: 256, From: api.Addr{Six: true}}
	expectLayError(t, p, api.ErrFourForm)
}

func TestTakeEdges(t *testing.T) {
	for _, p := range edges() {
		s := plain(p)
		expectTake(t, s, p)
		for _, behind := range []string{"\x00", "\xff", "behind", s, strings.Repeat("\x00", 70000)} {
			expectTake(t, s+behind, p)
		}
		// Of what is cut anywhere, too few bytes are there.
		for n := range len(s) {
			expectTakeError(t, s[:n], api.ErrFourShort)
		}
	}
}

func TestTakeFewBytes(t *testing.T) {
	for n := range 20 {
		for _, fill := range []string{"\x00", "\x45", "\x4f", "\xff"} {
			expectTakeError(t, strings.Repeat(fill, n), api.ErrFourShort)
		}
	}
	p := api.Four{Ttl: 9}
	expectTake(t, plain(p), p)
	expectTakeError(t, strings.Repeat("\x00", 20), api.ErrFourForm)
	expectTakeError(t, strings.Repeat("\x00", 1<<20), api.ErrFourForm)
	expectTakeError(t, strings.Repeat("\xff", 1<<20), api.ErrFourForm)
	expectTakeError(t, strings.Repeat("\x45", 20), api.ErrFourSum)
	expectTakeError(t, strings.Repeat("\x4f", 59), api.ErrFourShort)
	expectTakeError(t, strings.Repeat("\x4f", 60), api.ErrFourSum)
}

// TestTakeFirstByte has each first byte, with as many bytes as its header needs, with
// fewer, and with more; with a checksum that is right, and one that is not.
func TestTakeFirstByte(t *testing.T) {
	for first := range 256 {
		for _, n := range []int{20, 21, 23, 24, 25, 40, 59, 60, 61, 100} {
			size := 4 * (first - 64)
			s := string([]byte{byte(first), 0, byte(n >> 8), byte(n)}) + strings.Repeat("\x01", n-4)
			s = s[:6] + "\x00" + s[7:]
			if first >= 69 && first <= 79 && size <= n {
				s = summed(s[:size]) + s[size:]
			}
			switch p, e := ip4.Take(s); {
			case first < 69 || first > 79:
				expectTakeError(t, s, api.ErrFourForm)
			case n < size:
				expectTakeError(t, s, api.ErrFourShort)
			case e != api.OK || p.Options != strings.Repeat("\x01", size-20) || p.Data != strings.Repeat("\x01", n-size):
				t.Errorf("F2: Take of %d bytes that begin with %d is %#v %d", n, first, p, e)
			default:
				expectTakeError(t, s[:5]+"\x02"+s[6:], api.ErrFourSum)
			}
		}
	}
}

// TestTakeEachByte has each byte of some packets as another one: of a header's, only
// the first may not make its checksum wrong.
func TestTakeEachByte(t *testing.T) {
	longest := full()
	longest.Options = strings.Repeat("\x01", 40)
	for _, p := range []api.Four{small(), full(), longest} {
		s := plain(p)
		size := 20 + len(p.Options)
		for at := range s {
			for n := range 256 {
				x := s[:at] + string([]byte{byte(n)}) + s[at+1:]
				switch {
				case x == s:
					expectTake(t, x, p)
				case at > 0 && at < size:
					expectTakeError(t, x, api.ErrFourSum)
				case at >= size:
					other := p
					other.Data = x[size:]
					expectTake(t, x, other)
				default:
					_, e := plainTake(x)
					expectTakeError(t, x, e)
				}
			}
		}
	}
}

// zeroSum is a packet whose checksum is 0, so that 65535 in its place is right too.
func zeroSum() api.Four {
	p := small()
	p.ID = 65535 - rest(bare(p, 28))
	return p
}

func TestTakeBothZeros(t *testing.T) {
	p := zeroSum()
	s := plain(p)
	if s[10:12] != "\x00\x00" {
		t.Fatalf("no checksum of 0: %q", s)
	}
	other := s[:10] + "\xff\xff" + s[12:]
	expectLay(t, p, s)
	expectTake(t, s, p)
	expectTake(t, other, p)
	for _, sum := range []int{1, 255, 256, 32768, 65534} {
		expectTakeError(t, s[:10]+big(sum, 2)+s[12:], api.ErrFourSum)
	}
	if back, e := ip4.Lay(p); back != s || e != api.OK {
		t.Errorf("F5: Lay of what Take made of a checksum of 65535 is %q %d", back, e)
	}
	p.Ttl--
	for _, x := range []string{s, other, other + "behind"} {
		if h, e := ip4.Hop(x); h != plain(p) || e != api.OK {
			t.Errorf("F4: Hop of %q is %q %d", x, h, e)
		}
	}
	// All other words are told from these by no checksum but the right one.
	for sum := range 65536 {
		x := patched(small(), 10, "")
		x = x[:10] + big(sum, 2) + x[12:]
		if _, e := ip4.Take(x); (e == api.OK) != (sum == 102*256+207) || e != api.OK && e != api.ErrFourSum {
			t.Errorf("F2: Take with the checksum %d is %d", sum, e)
		}
	}
}

func TestTakeTotalLength(t *testing.T) {
	for _, base := range []api.Four{small(), full()} {
		size := 20 + len(base.Options)
		base.Data = strings.Repeat("d", 300)
		for total := range 65536 {
			s := patched(base, 2, big(total, 2))
			switch {
			case total < size:
				expectTakeError(t, s, api.ErrFourForm)
			case total > len(s):
				if total < 400 || total%251 == 0 || total > 65500 {
					expectTakeError(t, s, api.ErrFourShort)
				}
			default:
				p := base
				p.Data = base.Data[:total-size]
				expectTake(t, s, p)
			}
		}
	}
	p := full()
	p.Data = strings.Repeat("d", 65535-28)
	expectTake(t, plain(p), p)
	expectTake(t, plain(p)+"behind", p)
	expectTakeError(t, plain(p)[:65534], api.ErrFourShort)
}

func TestTakeEachPart(t *testing.T) {
	for part := range 65536 {
		for _, base := range []api.Four{{Ttl: 2}, full()} {
			p := base
			p.Off, p.Df, p.Mf = part%8192, part/16384%2 == 1, part/8192%2 == 1
			s := patched(base, 6, big(part, 2))
			if part >= 32768 {
				expectTakeError(t, s, api.ErrFourForm)
			} else {
				expectTake(t, s, p)
			}
		}
	}
}

func TestTakeOptions(t *testing.T) {
	for _, options := range wrongOptions() {
		if len(options)%4 == 0 && len(options) <= 40 {
			p := small()
			p.Options = options
			expectTakeError(t, plain(p), api.ErrFourForm)
			expectTakeError(t, plain(p)+"behind", api.ErrFourForm)
		}
	}
	// What stands behind the header cannot make its options whole.
	p := small()
	p.Options, p.Data = "\x01\x01\x07\x04", "\x09\x09"
	expectTakeError(t, plain(p), api.ErrFourForm)
}

// TestTakeFaults has bytes with several faults: which error comes first.
func TestTakeFaults(t *testing.T) {
	wrong := full()
	wrong.Options = "\x07\x01\x00\x00"
	size := 24
	good := plain(wrong)
	short := func(s string) string { return s[:len(s)-1] }
	set := func(s string, at int, bytes string) string {
		s = s[:at] + bytes + s[at+len(bytes):]
		return summed(s[:size]) + s[size:]
	}
	odd := set(good, 6, "\x80\x00")
	few := set(good, 2, "\x00\x17")
	unsummed := func(s string) string { return s[:4] + string([]byte{s[4] ^ 1}) + s[5:] }
	for _, c := range []struct {
		what string
		s    string
		want api.Errno
	}{
		{"options", good, api.ErrFourForm},
		{"a total length and options", short(good), api.ErrFourShort},
		{"a bit and a total length and options", short(odd), api.ErrFourForm},
		{"a bit and options", odd, api.ErrFourForm},
		{"a total length below the header, and options", few, api.ErrFourForm},
		{"a total length below the header, and a bit", set(few, 6, "\x80\x00"), api.ErrFourForm},
		{"a sum and options", unsummed(good), api.ErrFourSum},
		{"a sum and a total length", unsummed(short(good)), api.ErrFourSum},
		{"a sum and a bit", unsummed(odd), api.ErrFourSum},
		{"a sum and a total length below the header", unsummed(few), api.ErrFourSum},
		{"a cut header and its sum", unsummed(good)[:size-1], api.ErrFourShort},
		{"a cut header and its total length", few[:size-1], api.ErrFourShort},
		{"a cut header and a bit", odd[:size-1], api.ErrFourShort},
		{"a first byte and a sum", "\x44" + good[1:], api.ErrFourForm},
		{"a first byte and a cut header", "\x50" + good[1:20], api.ErrFourForm},
		{"a first byte and 19 bytes", "\x44" + good[1:19], api.ErrFourShort},
		{"a first byte of a longer header", "\x4f" + good[1:], api.ErrFourShort},
	} {
		if p, e := ip4.Take(c.s); p != (api.Four{}) || e != c.want {
			t.Errorf("F2: with the faults of %s Take is %#v %d, not the error %d", c.what, p, e, c.want)
		}
		if h, e := ip4.Hop(c.s); h != "" || e != c.want {
			t.Errorf("F4: with the faults of %s Hop is %q %d, not the error %d", c.what, h, e, c.want)
		}
	}
}

// packet is one that looks like chance.
func (s *source) packet() api.Four {
	options := goodOptions()
	return api.Four{
		Tos: s.below(256), ID: s.below(65536), Df: s.below(2) == 0, Mf: s.below(2) == 0, Off: s.below(8192),
		Ttl: s.below(256), Proto: s.below(256), From: api.Addr{Lo: s.next() >> 32}, To: api.Addr{Lo: s.next() >> 32},
		Options: options[s.below(len(options))], Data: s.text(s.below(40)),
	}
}

func TestTakeUndoesLay(t *testing.T) {
	s := source(1)
	for range 20000 {
		p := s.packet()
		laid, e := ip4.Lay(p)
		if e != api.OK || laid != plain(p) {
			t.Fatalf("F1: Lay of %#v is %q %d", p, laid, e)
		}
		if got, e := ip4.Take(laid + s.text(s.below(3)*s.below(40))); got != p || e != api.OK {
			t.Errorf("F5: Take of what Lay made of %#v is %#v %d", p, got, e)
		}
		hopped, e := ip4.Hop(laid + s.text(s.below(3)*s.below(40)))
		if p.Ttl <= 1 {
			if hopped != "" || e != api.ErrFourHop {
				t.Errorf("F4: Hop of %#v is %q %d", p, hopped, e)
			}
			continue
		}
		p.Ttl--
		if again, _ := ip4.Lay(p); hopped != again || e != api.OK {
			t.Errorf("F5: Hop of what Lay made is %q %d, not what Lay makes of %#v", hopped, e, p)
		}
	}
}

// TestTakeAnyBytes gives the calls whatever may be given to them, mostly with a
// checksum that is right, and lays again what was taken.
func TestTakeAnyBytes(t *testing.T) {
	s := source(2)
	for range 100000 {
		x := s.text(s.below(90))
		if len(x) >= 20 && s.below(8) > 0 {
			x = big(69+s.below(11), 1) + x[1:2] + big(s.below(100), 2) + x[4:6] + big(s.below(140), 1) + x[7:]
			size := 4 * int(x[0]-64)
			if options := goodOptions(); size <= len(x) {
				if o := options[s.below(len(options))]; s.below(2) == 0 && len(o) == size-20 {
					x = x[:20] + o + x[size:]
				}
				x = summed(x[:size]) + x[size:]
			}
		}
		want, e := plainTake(x)
		if e != api.OK {
			expectTakeError(t, x, e)
			continue
		}
		expectTake(t, x, want)
		p, _ := ip4.Take(x)
		if back, e := ip4.Lay(p); back != x[:20+len(p.Options)+len(p.Data)] || e != api.OK {
			t.Errorf("F5: Lay of what Take made of %q is %q %d", x, back, e)
		}
	}
}

func TestLayAnyPacket(t *testing.T) {
	s := source(3)
	near := func(most int) int {
		switch s.below(20) {
		case 0:
			return -1 - s.below(2)
		case 1:
			return most + 1 + s.below(2)
		case 2:
			return int(s.next())
		}
		return s.below(most + 1)
	}
	for range 50000 {
		p := s.packet()
		p.Tos, p.Ttl, p.Proto, p.ID, p.Off = near(255), near(255), near(255), near(65535), near(8191)
		p.Options = s.options(s.below(44), 2)
		_, ok := plainOptions(p.Options)
		good := ok && len(p.Options) <= 40 && len(p.Options)%4 == 0
		for _, n := range [][2]int{{p.Tos, 255}, {p.Ttl, 255}, {p.Proto, 255}, {p.ID, 65535}, {p.Off, 8191}} {
			good = good && n[0] >= 0 && n[0] <= n[1]
		}
		if good {
			expectLay(t, p, plain(p))
		} else {
			expectLayError(t, p, api.ErrFourForm)
		}
	}
}

// hostOf is a text's bytes as a text that shares their memory, which nothing but such
// a trick can make.
func hostOf(b []byte) string { return unsafe.String(&b[0], len(b)) }

// TestPacketsKeepNoBytes writes over the memory of the texts that were given: no
// result may change with it.
func TestPacketsKeepNoBytes(t *testing.T) {
	p := full()
	b := []byte(plain(p))
	took, _ := ip4.Take(hostOf(b))
	hopped, _ := ip4.Hop(hostOf(b))
	data, options := []byte(p.Data), []byte(p.Options)
	p.Data, p.Options = hostOf(data), hostOf(options)
	laid, _ := ip4.Lay(p)
	for _, x := range [][]byte{b, data, options} {
		for i := range x {
			x[i] = 'X'
		}
	}
	if took != full() {
		t.Errorf("R3: a packet shares its bytes with what Take was given: %#v", took)
	}
	if laid != plain(full()) {
		t.Errorf("R3: the bytes of a packet are shared with what Lay was given: %q", laid)
	}
	p = full()
	p.Ttl--
	if hopped != plain(p) {
		t.Errorf("R3: the bytes of a packet are shared with what Hop was given: %q", hopped)
	}
}

func TestPacketsAreIndependent(t *testing.T) {
	s := plain(full())
	x, _ := ip4.Take(s)
	y, _ := ip4.Take(s)
	x.Tos, x.Df, x.From.Six, x.Options, x.Data = 9, false, true, "x", "x"
	if y != full() {
		t.Errorf("R3: a packet that was written over changes another one: %#v", y)
	}
	expectTake(t, s, full())
	expectLay(t, full(), s)
}
