package icmp_test

import (
	"strings"
	"testing"
	"unsafe"

	"crossway/api"
	"crossway/icmp"
)

// plainTake is what H2 says of some bytes, one sentence after the other.
func plainTake(s string, isSix bool, x ends) (api.Icmp, api.Errno) {
	if isSix && !(x.from.Six && x.to.Six) {
		return api.Icmp{}, api.ErrIcmpForm
	}
	if len(s) < 8 {
		return api.Icmp{}, api.ErrIcmpShort
	}
	if plainSum(whole(s, isSix, x)) != 65535 {
		return api.Icmp{}, api.ErrIcmpSum
	}
	if len(s) > 65008 {
		return api.Icmp{}, api.ErrIcmpForm
	}
	rest := int(s[4])*256*65536 + int(s[5])*65536 + int(s[6])*256 + int(s[7])
	return api.Icmp{Six: isSix, Kind: int(s[0]), Code: int(s[1]), Rest: rest, Data: s[8:]}, api.OK
}

func expectTake(t *testing.T, s string, x ends, want api.Icmp) {
	t.Helper()
	if m, e := icmp.Take(s, want.Six, x.from, x.to); m != want || e != api.OK {
		t.Errorf("H2: Take of %d bytes %q, between %v, is %#v %d, not %#v", len(s), start(s), x, brief(m), e, brief(want))
	}
}

func expectTakeError(t *testing.T, s string, isSix bool, x ends, want api.Errno) {
	t.Helper()
	if m, e := icmp.Take(s, isSix, x.from, x.to); m != (api.Icmp{}) || e != want {
		t.Errorf("H2: Take of %d bytes %q, with Six %t, between %v, is %#v %d, not the error %d", len(s), start(s), isSix, x, brief(m), e, want)
	}
}

// expectAsPlain has some bytes taken as H2 says, and returns the message.
func expectAsPlain(t *testing.T, s string, isSix bool, x ends) (api.Icmp, api.Errno) {
	t.Helper()
	m, e := plainTake(s, isSix, x)
	if e != api.OK {
		expectTakeError(t, s, isSix, x, e)
	} else {
		expectTake(t, s, x, m)
	}
	return m, e
}

// changed is some bytes with another one at a place.
func changed(s string, at int, b byte) string {
	return s[:at] + string([]byte{b}) + s[at+1:]
}

func TestTakeExamples(t *testing.T) {
	s := "\x08\x00\xf7\xfd\x00\x01\x00\x01"
	expectTake(t, s, ends{}, small(false))
	expectTakeError(t, s[:7], false, ends{}, api.ErrIcmpShort)
	expectTakeError(t, s[:7]+"\x02", false, ends{}, api.ErrIcmpSum)
	expectTake(t, "\x80\x00\x7f\xba\x00\x00\x00\x00", near, small(true))
	expectTake(t, "\x0c\x07\xd8\xaf\x89\xab\xcd\xefsome data", ends{}, full(false))
	m := full(true)
	m.Kind, m.Code = 4, 1
	expectTake(t, "\x04\x01\xee\x5d\x89\xab\xcd\xefsome data", far, m)
}

// TestTakeFewBytes has up to eight bytes, of which only eight may be a message.
func TestTakeFewBytes(t *testing.T) {
	for _, isSix := range families {
		for n := range 8 {
			for _, fill := range []string{"\x00", "\x7f", "\xff"} {
				expectTakeError(t, strings.Repeat(fill, n), isSix, near, api.ErrIcmpShort)
			}
			for _, m := range bases(isSix) {
				expectTakeError(t, plain(m, near)[:n], isSix, near, api.ErrIcmpShort)
			}
			// These have the right sum, but are too few.
			if n >= 4 {
				check := 65535 - plainSum(whole("\x08\x00"+strings.Repeat("\x00", n-2), isSix, near))
				s := "\x08\x00" + big(uint64(check), 2) + strings.Repeat("\x00", n-4)
				expectTakeError(t, s, isSix, near, api.ErrIcmpShort)
			}
		}
		for _, m := range []api.Icmp{least(isSix), small(isSix)} {
			expectTake(t, plain(m, near), near, m)
		}
	}
	expectTakeError(t, strings.Repeat("\x00", 8), false, ends{}, api.ErrIcmpSum)
	expectTake(t, strings.Repeat("\xff", 8), ends{}, api.Icmp{Kind: 255, Code: 255, Rest: 1<<32 - 1})
	expectTakeError(t, strings.Repeat("\x00", 8), true, near, api.ErrIcmpSum)
	expectTakeError(t, strings.Repeat("\xff", 8), true, near, api.ErrIcmpSum)
}

// TestTakeCut has messages without their last bytes.
func TestTakeCut(t *testing.T) {
	for _, isSix := range families {
		s := plain(full(isSix), far)
		for n := 8; n < len(s); n++ {
			expectTakeError(t, s[:n], isSix, far, api.ErrIcmpSum)
		}
	}
}

func TestTakeEdges(t *testing.T) {
	for _, isSix := range families {
		for _, m := range edges(isSix) {
			for _, x := range []ends{near, far} {
				expectTake(t, plain(m, x), x, m)
			}
		}
	}
}

// TestTakeEachByte has each byte of some messages as each other one: the sum is another
// one then.
func TestTakeEachByte(t *testing.T) {
	for _, isSix := range families {
		for _, m := range bases(isSix) {
			s := plain(m, far)
			for at := range s {
				for n := range 256 {
					x := changed(s, at, byte(n))
					if x == s {
						expectTake(t, x, far, m)
					} else {
						expectTakeError(t, x, isSix, far, api.ErrIcmpSum)
					}
				}
			}
		}
	}
}

// TestTakeEachCheck has each checksum of some messages: the right one, and 65535 where
// that is 0. (A checksum of 65535 is right for zeros alone, for which 0 is not.)
func TestTakeEachCheck(t *testing.T) {
	for _, c := range []struct {
		m     api.Icmp
		right []int
	}{
		{least(false), []int{65535}},
		{api.Icmp{Data: "\x00\x00\x00"}, []int{65535}},
		{small(false), []int{0xf7fd}},
		{small(true), []int{0x7fba}},
		{full(false), []int{0xd8af}},
		{api.Icmp{Kind: 255, Code: 255}, []int{0, 65535}},
		{api.Icmp{Kind: 255, Code: 255, Rest: 1<<32 - 1}, []int{0, 65535}},
		{api.Icmp{Data: "\xff\xff"}, []int{0, 65535}},
		{api.Icmp{Data: "\x01\x02\xfe\xfd"}, []int{0, 65535}},
		{api.Icmp{Six: true, Kind: 128, Rest: 0x7fba}, []int{0, 65535}},
		{api.Icmp{Six: true, Data: "\xff\xb8"}, []int{0, 65535}},
	} {
		for check := range 65536 {
			s := bytesOf(c.m, check)
			good := check == c.right[0] || check == c.right[len(c.right)-1]
			m, e := icmp.Take(s, c.m.Six, near.from, near.to)
			if good && (m != c.m || e != api.OK) {
				t.Errorf("H2: Take of %q is %#v %d, not %#v", s, m, e, c.m)
			}
			if !good && (m != (api.Icmp{}) || e != api.ErrIcmpSum) {
				t.Errorf("H2: Take of %q is %#v %d, not ErrIcmpSum", s, m, e)
			}
		}
		expectLay(t, c.m, near, bytesOf(c.m, c.right[0]))
	}
}

// TestTakeManyBytes has up to 65000 bytes of Data, and more, with the right sum and
// with a wrong one.
func TestTakeManyBytes(t *testing.T) {
	for _, isSix := range families {
		for _, n := range []int{1, 2, 255, 256, 1272, 64999, 65000, 65001, 65002, 65527, 65528, 65536, 1 << 17, 1<<20 + 1} {
			for _, fill := range []string{"\x00", "\x01", "\xff"} {
				m := full(isSix)
				m.Data = strings.Repeat(fill, n)
				s := plain(m, far)
				if n <= 65000 {
					expectTake(t, s, far, m)
				} else {
					expectTakeError(t, s, isSix, far, api.ErrIcmpForm)
				}
				expectTakeError(t, changed(s, 7, 0xee), isSix, far, api.ErrIcmpSum)
				expectTakeError(t, changed(s, len(s)-1, 0x80), isSix, far, api.ErrIcmpSum)
			}
		}
	}
}

// TestTakeEnds has addresses of both families, and such as are not valid, at both
// places: with Six they must be IPv6 addresses, without it they are ignored.
func TestTakeEnds(t *testing.T) {
	for _, x := range sixEnds() {
		for _, m := range bases(true) {
			expectTake(t, plain(m, x), x, m)
		}
	}
	for _, x := range oddEnds() {
		for _, m := range bases(true) {
			expectTakeError(t, plain(m, x), true, x, api.ErrIcmpForm)
			expectTakeError(t, plain(m, near), true, x, api.ErrIcmpForm)
		}
	}
	for _, x := range append(sixEnds(), oddEnds()...) {
		for _, m := range bases(false) {
			expectTake(t, plain(m, ends{}), x, m)
		}
	}
}

// TestTakeOtherFamily has messages of the one family taken as those of the other.
func TestTakeOtherFamily(t *testing.T) {
	for _, x := range []ends{near, far} {
		for _, isSix := range families {
			for _, m := range edges(isSix) {
				expectTakeError(t, plain(m, x), !isSix, x, api.ErrIcmpSum)
			}
		}
	}
	// The header that stands for these addresses has the sum 65535: it adds nothing.
	x := ends{six(0, 0), six(0, 65535-58-8)}
	m := small(true)
	s := plain(m, x)
	expectTake(t, s, x, m)
	m.Six = false
	expectTake(t, s, x, m)
}

// TestTakeFaults has inputs with several faults: which error comes first.
func TestTakeFaults(t *testing.T) {
	long := full(true)
	long.Data = strings.Repeat("\x01", 65001)
	for _, c := range []struct {
		what  string
		s     string
		isSix bool
		x     ends
		want  api.Errno
	}{
		{"no bytes, and no IPv6 addresses", "", true, ends{}, api.ErrIcmpForm},
		{"seven bytes, and an IPv4 sender", "\x80\x00\x7f\xba\x00\x00\x00", true, ends{api.Addr{Lo: 1}, near.to}, api.ErrIcmpForm},
		{"seven bytes, and an IPv4 receiver", "\x80\x00\x7f\xba\x00\x00\x00", true, ends{near.from, api.Addr{Lo: 2}}, api.ErrIcmpForm},
		{"seven bytes with a wrong sum", "\x80\x00\x00\x00\x00\x00\x00", true, near, api.ErrIcmpShort},
		{"seven bytes with a wrong sum", "\x08\x00\x00\x00\x00\x00\x00", false, ends{}, api.ErrIcmpShort},
		{"a wrong sum, and no IPv6 addresses", "\x80\x00\x00\x00\x00\x00\x00\x00", true, ends{}, api.ErrIcmpForm},
		{"a wrong sum, and an address that is not valid", "\x80\x00\x00\x00\x00\x00\x00\x00", true, ends{near.from, api.Addr{Hi: 1}}, api.ErrIcmpForm},
		{"a wrong sum, and an address that is not valid", "\x08\x00\x00\x00\x00\x00\x00\x00", false, ends{api.Addr{Hi: 1}, api.Addr{Lo: 1 << 32}}, api.ErrIcmpSum},
		{"too many bytes with a wrong sum", strings.Repeat("\x01", 65009), false, ends{}, api.ErrIcmpSum},
		{"too many bytes with a wrong sum", strings.Repeat("\x01", 65009), true, near, api.ErrIcmpSum},
		{"too many bytes, and an IPv4 sender", plain(long, near), true, ends{api.Addr{Lo: 1}, near.to}, api.ErrIcmpForm},
		{"too many bytes, and other addresses", plain(long, near), true, far, api.ErrIcmpSum},
		{"too many bytes, as the other family", plain(long, near), false, near, api.ErrIcmpSum},
		{"too many bytes", plain(long, near), true, near, api.ErrIcmpForm},
	} {
		if m, e := icmp.Take(c.s, c.isSix, c.x.from, c.x.to); m != (api.Icmp{}) || e != c.want {
			t.Errorf("H2: with the faults of %s Take, with Six %t, is %#v %d, not the error %d", c.what, c.isSix, brief(m), e, c.want)
		}
	}
}

// TestTakeUndoesLay has whatever Lay returns taken, between the same addresses.
func TestTakeUndoesLay(t *testing.T) {
	s := source(2)
	for range 20000 {
		m, x := s.message(s.below(2) == 0), s.ends()
		laid, e := icmp.Lay(m, x.from, x.to)
		if e != api.OK || laid != plain(m, x) {
			t.Fatalf("H1: Lay of %#v is %q %d", m, laid, e)
		}
		if got, e := icmp.Take(laid, m.Six, x.from, x.to); got != m || e != api.OK {
			t.Errorf("H4: Take of what Lay made of %#v is %#v %d", m, got, e)
		}
	}
}

// TestTakeOtherEnds has messages taken between other addresses than those between which
// they went: with the same sum it is the same message.
func TestTakeOtherEnds(t *testing.T) {
	for _, m := range edges(true) {
		s := plain(m, far)
		for _, x := range []ends{
			{far.to, far.from},
			{six(far.from.Lo, far.from.Hi), far.to},
			{six(far.to.Hi, far.from.Lo), six(far.from.Hi, far.to.Lo)},
			{six(far.from.Hi<<16|far.from.Hi>>48, far.from.Lo), far.to},
			{six(far.from.Hi+1, far.from.Lo), six(far.to.Hi, far.to.Lo-1)},
			{six(far.from.Hi+1, far.from.Lo-1<<48), far.to},
		} {
			expectTake(t, s, x, m)
		}
		for _, x := range []ends{
			near, {far.from, far.from}, {far.to, far.to},
			{six(far.from.Hi+1, far.from.Lo), far.to},
			{far.from, six(far.to.Hi, far.to.Lo-1)},
			{six(far.from.Hi, far.from.Lo^1<<63), far.to},
			{six(far.from.Hi<<8|far.from.Hi>>56, far.from.Lo), far.to},
			{six(0, 0), six(0, 0)},
		} {
			expectTakeError(t, s, true, x, api.ErrIcmpSum)
		}
	}
	for _, m := range edges(false) {
		s := plain(m, far)
		for _, x := range []ends{near, far, {}, {api.Addr{Lo: 1}, api.Addr{Lo: 2}}} {
			expectTake(t, s, x, m)
		}
	}
	s := source(3)
	for range 20000 {
		m, x, other := s.message(true), s.ends(), s.ends()
		expectAsPlain(t, plain(m, x), true, other)
	}
}

// TestTakeOneByteMore has one byte behind a message. A 0 changes the sum of the family
// that sums up the length too, and every other byte that of both.
func TestTakeOneByteMore(t *testing.T) {
	for _, isSix := range families {
		for _, m := range edges(isSix) {
			s := plain(m, far)
			for n := range 256 {
				behind := string([]byte{byte(n)})
				if n > 0 || isSix {
					expectTakeError(t, s+behind, isSix, far, api.ErrIcmpSum)
					continue
				}
				longer := m
				longer.Data += behind
				expectTake(t, s+behind, far, longer)
			}
		}
	}
}

// TestTakeTwoBytesMore has two bytes behind a message: where they do not change the sum
// it is another message, with these bytes.
func TestTakeTwoBytesMore(t *testing.T) {
	for _, isSix := range families {
		for _, m := range []api.Icmp{small(isSix), full(isSix)} {
			s := plain(m, far)
			found := 0
			for n := range 65536 {
				x := s + big(uint64(n), 2)
				got, e := icmp.Take(x, isSix, far.from, far.to)
				want, e2 := plainTake(x, isSix, far)
				if got != want || e != e2 {
					t.Fatalf("H2: Take of %q is %#v %d, not %#v %d", x, got, e, want, e2)
				}
				if e == api.OK {
					found++
				}
				if got == m {
					t.Errorf("H4: Take of %q, with %d behind it, is the same message", s, n)
				}
			}
			if wanted := map[bool]int{false: 2, true: 1}[isSix]; found != wanted {
				t.Errorf("H4: with Six %t, %d words behind %q do not change its sum, not %d", isSix, found, s, wanted)
			}
		}
	}
	m := full(false)
	s := plain(m, ends{})
	m.Data += "\xff\xff"
	expectTake(t, s+"\xff\xff", ends{}, m)
	m = small(true)
	s = plain(m, near)
	m.Data = "\xff\xfd"
	expectTake(t, s+m.Data, near, m)
}

// TestLayUndoesTake has some bytes with the right sum: what Take returns is laid as the
// same bytes, but for a checksum of 65535 where it could be 0.
func TestLayUndoesTake(t *testing.T) {
	s := source(4)
	taken := 0
	for range 30000 {
		isSix, x := s.below(2) == 0, s.ends()
		b := s.text(s.below(40))
		if len(b) >= 4 && s.below(8) > 0 {
			if s.below(3) == 0 {
				b = b[:len(b)-2] + "\x00\x00"
				word := 65535 - plainSum(whole(b[:2]+"\x00\x00"+b[4:], isSix, x))
				if len(b)%2 == 1 {
					word = word%256*256 + word/256
				}
				b = b[:len(b)-2] + big(uint64(word), 2)
			}
			check := 65535 - plainSum(whole(b[:2]+"\x00\x00"+b[4:], isSix, x))
			if check == 0 && s.below(2) == 0 {
				check = 65535
			}
			b = b[:2] + big(uint64(check), 2) + b[4:]
		}
		m, e := expectAsPlain(t, b, isSix, x)
		if e != api.OK {
			continue
		}
		taken++
		want := b
		if b[2:4] == "\xff\xff" {
			want = b[:2] + "\x00\x00" + b[4:]
		}
		if back, e := icmp.Lay(m, x.from, x.to); back != want || e != api.OK {
			t.Errorf("H4: Lay of what Take made of %q is %q %d, not %q", b, back, e, want)
		}
	}
	if taken < 10000 {
		t.Errorf("only %d inputs were messages", taken)
	}
	// Of zeros alone the checksum is 65535, and with 0 in its place they are none.
	expectTake(t, "\x00\x00\xff\xff\x00\x00\x00\x00", ends{}, least(false))
	expectLay(t, least(false), ends{}, "\x00\x00\xff\xff\x00\x00\x00\x00")
}

// TestTakeAnyBytes gives Take whatever may be given to it.
func TestTakeAnyBytes(t *testing.T) {
	s := source(5)
	for range 50000 {
		x := s.ends()
		x.from.Six, x.to.Six = s.below(6) > 0, s.below(6) > 0
		expectAsPlain(t, s.text(s.below(40)), s.below(2) == 0, x)
	}
}

// hostOf is a text's bytes as a text that shares their memory, which nothing but such
// a trick can make.
func hostOf(b []byte) string { return unsafe.String(&b[0], len(b)) }

// TestMessagesKeepNoBytes writes over the memory of the texts that were given: no
// result may change with it.
func TestMessagesKeepNoBytes(t *testing.T) {
	for _, isSix := range families {
		m := full(isSix)
		m.Kind, m.Code = small(isSix).Kind, 0
		s := plain(m, far)
		b, data := []byte(s), []byte(m.Data)
		took, _ := icmp.Take(hostOf(b), isSix, far.from, far.to)
		given := m
		given.Data = hostOf(data)
		laid, _ := icmp.Lay(given, far.from, far.to)
		reply, _ := icmp.Reply(given)
		if string(b) != s || string(data) != m.Data {
			t.Errorf("R3: the bytes that were given have become %q, %q", b, data)
		}
		for _, x := range [][]byte{b, data} {
			for i := range x {
				x[i] = 'X'
			}
		}
		if took != m {
			t.Errorf("R3: a message shares its bytes with what Take was given: %#v", took)
		}
		if laid != s {
			t.Errorf("R3: the bytes of a message are shared with what Lay was given: %q", laid)
		}
		if reply.Data != m.Data {
			t.Errorf("R3: a reply shares its bytes with what Reply was given: %#v", reply)
		}
	}
}

func TestMessagesAreIndependent(t *testing.T) {
	for _, isSix := range families {
		m := full(isSix)
		s := plain(m, far)
		x, _ := icmp.Take(s, isSix, far.from, far.to)
		y, _ := icmp.Take(s, isSix, far.from, far.to)
		x.Six, x.Kind, x.Code, x.Rest, x.Data = !isSix, 9, 9, 9, "x"
		if y != m {
			t.Errorf("R3: a message that was written over changes another one: %#v", y)
		}
		expectTake(t, s, far, m)
		expectLay(t, m, far, s)
	}
}
