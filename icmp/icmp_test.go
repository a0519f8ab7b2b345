package icmp_test

import (
	"math"
	"slices"
	"strings"
	"testing"

	"crossway/api"
	"crossway/icmp"
)

// source tells numbers that look like chance, the same ones in each run.
type source uint64

func (s *source) next() uint64 {
	*s = *s*6364136223846793005 + 1442695040888963407
	return uint64(*s ^ *s>>29)
}

func (s *source) below(n int) int { return int(s.next() >> 11 % uint64(n)) }

// text is so many bytes that look like chance.
func (s *source) text(n int) string {
	b := make([]byte, n)
	for i := range b {
		b[i] = byte(s.next() >> 20)
	}
	return string(b)
}

// start is the beginning of a text, to be told.
func start(s string) string {
	return s[:min(len(s), 60)]
}

// brief is a message with the beginning of its Data, to be told.
func brief(m api.Icmp) api.Icmp {
	m.Data = start(m.Data)
	return m
}

// big is a number in so many bytes, the most significant one first.
func big(n uint64, width int) string {
	b := make([]byte, width)
	for i := range b {
		b[i] = byte(n >> (8 * (width - 1 - i)))
	}
	return string(b)
}

// ends are two addresses between which a message goes.
type ends struct{ from, to api.Addr }

// six is an IPv6 address.
func six(hi, lo uint64) api.Addr {
	return api.Addr{Six: true, Hi: hi, Lo: lo}
}

// The ends of most tests: of the chapter's example, and two whose words all differ.
var (
	near = ends{six(0, 1), six(0, 2)}
	far  = ends{six(0x20010db801020304, 0x05060708090a0b0c), six(0xfe80111213141516, 0x1718191a1b1c1d1e)}
)

// plainSum is the ones' complement sum of the words of a text: a sum that is not 0 is
// never reduced to 0.
func plainSum(s string) int {
	n := 0
	for i := range len(s) {
		if i%2 == 0 {
			n += int(s[i]) * 256
		} else {
			n += int(s[i])
		}
	}
	if n == 0 {
		return 0
	}
	return (n-1)%65535 + 1
}

// pseudo is the header that stands ahead of an ICMPv6 message when it is summed up.
func pseudo(x ends, length int) string {
	return big(x.from.Hi, 8) + big(x.from.Lo, 8) + big(x.to.Hi, 8) + big(x.to.Lo, 8) +
		big(uint64(length), 4) + "\x00\x00\x00\x3a"
}

// whole is all that is summed up of some bytes of a family.
func whole(s string, isSix bool, x ends) string {
	if isSix {
		return pseudo(x, len(s)) + s
	}
	return s
}

// bytesOf is a message with a checksum.
func bytesOf(m api.Icmp, check int) string {
	return big(uint64(m.Kind), 1) + big(uint64(m.Code), 1) + big(uint64(check), 2) + big(uint64(m.Rest), 4) + m.Data
}

// plain is the bytes of a valid message, with the right checksum.
func plain(m api.Icmp, x ends) string {
	return bytesOf(m, 65535-plainSum(whole(bytesOf(m, 0), m.Six, x)))
}

func expectLay(t *testing.T, m api.Icmp, x ends, want string) {
	t.Helper()
	kept := m
	if s, e := icmp.Lay(m, x.from, x.to); s != want || e != api.OK {
		t.Errorf("H1: Lay of %#v, between %v, is %d bytes %q %d, not %d bytes %q", brief(m), x, len(s), start(s), e, len(want), start(want))
	}
	if m != kept {
		t.Errorf("R3: the message %#v has become %#v", brief(kept), brief(m))
	}
}

func expectLayError(t *testing.T, m api.Icmp, x ends) {
	t.Helper()
	if s, e := icmp.Lay(m, x.from, x.to); s != "" || e != api.ErrIcmpForm {
		t.Errorf("H1: Lay of %#v, %d bytes of Data, between %v, is %q %d, not ErrIcmpForm", brief(m), len(m.Data), x, start(s), e)
	}
}

// least is a message of zeros alone, small an echo request, and full one whose bytes
// all differ from those beside them; each of a family.
func least(isSix bool) api.Icmp { return api.Icmp{Six: isSix} }

func small(isSix bool) api.Icmp {
	if isSix {
		return api.Icmp{Six: true, Kind: 128}
	}
	return api.Icmp{Kind: 8, Rest: 65537}
}

func full(isSix bool) api.Icmp {
	return api.Icmp{Six: isSix, Kind: 12, Code: 7, Rest: 0x89abcdef, Data: "some data"}
}

// families tells of both families.
var families = []bool{false, true}

// bases are messages of a family.
func bases(isSix bool) []api.Icmp {
	return []api.Icmp{least(isSix), small(isSix), full(isSix)}
}

// The places of a message's numbers.
func kind(m *api.Icmp) *int { return &m.Kind }
func code(m *api.Icmp) *int { return &m.Code }
func rest(m *api.Icmp) *int { return &m.Rest }

// with is messages that have each of some values at each of some places.
func with(base api.Icmp, values []int, places ...func(*api.Icmp) *int) []api.Icmp {
	var found []api.Icmp
	for _, value := range values {
		for _, place := range places {
			m := base
			*place(&m) = value
			found = append(found, m)
		}
	}
	return found
}

// edges are messages of a family with each of their numbers at its ends.
func edges(isSix bool) []api.Icmp {
	var found []api.Icmp
	for _, base := range bases(isSix) {
		found = slices.Concat(found, []api.Icmp{base},
			with(base, []int{0, 1, 2, 127, 128, 129, 254, 255}, kind, code),
			with(base, []int{0, 1, 255, 256, 65535, 65536, 1<<31 - 1, 1 << 31, 1<<32 - 65536, 1<<32 - 2, 1<<32 - 1}, rest),
		)
	}
	return found
}

// wrong are messages of a family with one number that may not be.
func wrong(base api.Icmp) []api.Icmp {
	return slices.Concat(
		with(base, []int{-1, -8, -255, -256, 256, 257, 264, 511, 512, 65536, 1 << 32, math.MinInt, math.MinInt + 8, math.MaxInt}, kind, code),
		with(base, []int{-1, -65537, -1 << 32, 1 << 32, 1<<32 + 1, 1<<33 - 1, 1 << 62, math.MinInt, math.MinInt + 1, math.MaxInt}, rest),
	)
}

// sixEnds are addresses with Six, the least and the greatest among them.
func sixEnds() []ends {
	found := []ends{near, far}
	all := six(math.MaxUint64, math.MaxUint64)
	for _, a := range []api.Addr{six(0, 0), six(1, 0), six(0, 1<<63), six(1<<63, 0), six(0, 1<<32), six(0xfe80<<48, 1), six(0xff02<<48, 1), six(0, 0xffff<<32|10<<24|1), all} {
		found = append(found, ends{a, near.to}, ends{near.from, a}, ends{a, a}, ends{a, all})
	}
	return found
}

// oddEnds are addresses of which one at least is no IPv6 address.
func oddEnds() []ends {
	var found []ends
	for _, a := range []api.Addr{
		{}, {Lo: 1}, {Lo: 10<<24 | 1}, {Lo: 1<<32 - 1},
		{Lo: 1 << 32}, {Lo: math.MaxUint64}, {Hi: 1}, {Hi: 0xfe80 << 48, Lo: 1}, {Hi: math.MaxUint64, Lo: math.MaxUint64},
	} {
		found = append(found, ends{a, near.to}, ends{near.from, a}, ends{a, a}, ends{a, api.Addr{Lo: 2}}, ends{api.Addr{}, a})
	}
	return found
}

func TestLayExamples(t *testing.T) {
	expectLay(t, small(false), ends{}, "\x08\x00\xf7\xfd\x00\x01\x00\x01")
	expectLay(t, small(true), near, "\x80\x00\x7f\xba\x00\x00\x00\x00")
	expectLay(t, full(false), ends{}, "\x0c\x07\xd8\xaf\x89\xab\xcd\xefsome data")
	m := full(true)
	m.Kind, m.Code = 4, 1
	expectLay(t, m, far, "\x04\x01\xee\x5d\x89\xab\xcd\xefsome data")
	expectLay(t, api.Icmp{Six: true, Kind: 2, Rest: 1280, Data: "ab c"}, ends{six(0xfe80<<48, 1), six(0xff02<<48, 1)}, "\x02\x00\x79\x6e\x00\x00\x05\x00ab c")
	expectLay(t, least(false), ends{}, "\x00\x00\xff\xff\x00\x00\x00\x00")
	expectLay(t, api.Icmp{Kind: 255, Code: 255, Rest: 1<<32 - 1}, ends{}, "\xff\xff\x00\x00\xff\xff\xff\xff")
	expectLay(t, api.Icmp{Data: "\xff\xff"}, ends{}, "\x00\x00\x00\x00\x00\x00\x00\x00\xff\xff")
}

func TestLayEdges(t *testing.T) {
	for _, m := range edges(false) {
		expectLay(t, m, ends{}, plain(m, ends{}))
	}
	for _, m := range edges(true) {
		for _, x := range []ends{near, far} {
			expectLay(t, m, x, plain(m, x))
		}
	}
}

// TestLayEachNumber has each Kind and each Code.
func TestLayEachNumber(t *testing.T) {
	for _, isSix := range families {
		for n := range 256 {
			for _, m := range with(full(isSix), []int{n}, kind, code) {
				expectLay(t, m, far, plain(m, far))
			}
		}
	}
}

func TestLayWrongNumbers(t *testing.T) {
	for _, isSix := range families {
		for _, base := range bases(isSix) {
			for _, m := range wrong(base) {
				expectLayError(t, m, near)
				expectLayError(t, m, ends{})
				expectLayError(t, m, ends{api.Addr{Lo: 1 << 32}, api.Addr{Hi: 1}})
			}
		}
	}
}

func TestLayEachLength(t *testing.T) {
	for _, isSix := range families {
		for _, m := range bases(isSix) {
			for _, n := range []int{0, 1, 2, 3, 255, 256, 257, 1272, 32767, 32768, 64998, 64999, 65000} {
				for _, fill := range []string{"\x00", "\x01", "\xfe", "\xff"} {
					m.Data = strings.Repeat(fill, n)
					expectLay(t, m, far, plain(m, far))
				}
			}
			for _, n := range []int{65001, 65002, 65527, 65528, 65535, 65536, 1 << 17, 1 << 20} {
				m.Data = strings.Repeat("\x01", n)
				expectLayError(t, m, far)
				expectLayError(t, m, ends{})
			}
		}
	}
}

// TestLayEachByte has Data of bytes of all values, at even and at odd places.
func TestLayEachByte(t *testing.T) {
	b := make([]byte, 256)
	for i := range b {
		b[i] = byte(i)
	}
	for _, isSix := range families {
		for _, data := range []string{string(b), string(b[1:]), "x" + string(b), string(b[128:]), "\x80\xc3\x28", "\u00e4\u65e5\U0001f600", "\x00\x00x", "x\x00\x00"} {
			m := full(isSix)
			m.Data = data
			expectLay(t, m, far, plain(m, far))
		}
		for n := range b {
			m := small(isSix)
			m.Data = string(b[n : n+1])
			expectLay(t, m, near, plain(m, near))
			m.Data = "\x7f" + m.Data
			expectLay(t, m, near, plain(m, near))
		}
	}
}

// TestLayEnds has addresses of both families, and such as are not valid, at both
// places: with Six they must be IPv6 addresses, without it they are ignored.
func TestLayEnds(t *testing.T) {
	for _, x := range sixEnds() {
		for _, m := range bases(true) {
			expectLay(t, m, x, plain(m, x))
		}
	}
	for _, x := range oddEnds() {
		for _, m := range bases(true) {
			expectLayError(t, m, x)
		}
	}
	for _, x := range append(sixEnds(), oddEnds()...) {
		for _, m := range bases(false) {
			expectLay(t, m, x, plain(m, ends{}))
		}
	}
}

// TestLayFaults has messages with several faults: their error is the same one.
func TestLayFaults(t *testing.T) {
	for _, isSix := range families {
		m := api.Icmp{Six: isSix, Kind: 256, Code: -1, Rest: 1 << 32, Data: strings.Repeat("\x01", 65001)}
		for _, x := range []ends{{}, near, {api.Addr{Hi: 1}, six(0, 1)}} {
			expectLayError(t, m, x)
		}
		m = full(isSix)
		m.Kind, m.Data = 256, strings.Repeat("\x01", 65001)
		expectLayError(t, m, near)
	}
}

// message is one that looks like chance.
func (s *source) message(isSix bool) api.Icmp {
	return api.Icmp{Six: isSix, Kind: s.below(256), Code: s.below(256), Rest: s.below(1 << 32), Data: s.text(s.below(60))}
}

// ends are addresses with Six that look like chance.
func (s *source) ends() ends {
	return ends{six(s.next(), s.next()), six(s.next(), s.next())}
}

func TestLayAnyMessage(t *testing.T) {
	s := source(1)
	nearTo := func(most int) int {
		switch s.below(20) {
		case 0:
			return -1 - s.below(2)
		case 1:
			return most + 1 + s.below(2)
		case 2:
			return int(s.next())
		}
		return s.below(most + 1)
	}
	isByte := func(n int) bool { return n >= 0 && n <= 255 }
	for range 50000 {
		m := s.message(s.below(2) == 0)
		m.Kind, m.Code, m.Rest = nearTo(255), nearTo(255), nearTo(1<<32-1)
		x := s.ends()
		x.from.Six, x.to.Six = s.below(10) > 0, s.below(10) > 0
		good := isByte(m.Kind) && isByte(m.Code) && m.Rest >= 0 && m.Rest < 1<<32
		if good && (!m.Six || x.from.Six && x.to.Six) {
			expectLay(t, m, x, plain(m, x))
		} else {
			expectLayError(t, m, x)
		}
	}
}
