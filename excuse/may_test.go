package excuse_test

import (
	"slices"
	"strings"
	"testing"

	"crossway/api"
	"crossway/excuse"
)

// expectMay expects what May says of a packet, by itself, with bytes behind its end, and
// with some of them cut off.
func expectMay(t *testing.T, s string, want bool) {
	t.Helper()
	for _, behind := range []string{"", "\x00", "\x08", "\x80", "behind"} {
		if excuse.May(s+behind) != want {
			t.Errorf("Y1: May of %d bytes %q, with %q behind, is not %t", len(s), start(s), behind, want)
		}
	}
	if plainMay(s) != want {
		t.Errorf("the plain way says that May of %q is not %t", start(s), want)
	}
}

// expectNever expects that no error may be sent for some bytes.
func expectNever(t *testing.T, s string) {
	t.Helper()
	if excuse.May(s) {
		t.Errorf("Y1: May of %d bytes %q is true", len(s), start(s))
	}
}

// samples are packets of both families for which an error may be sent.
func samples() []string {
	var found []string
	for _, options := range []string{"", "\x01\x01\x01\x00", "\x83\x04\x00\x00\x07\x04\x00\x00", strings.Repeat("\x01", 40)} {
		for _, n := range []int{0, 1, 7, 8, 9, 40} {
			p := four()
			p.Options, p.Data = options, strings.Repeat("d", n)
			found = append(found, fourBytes(p))
		}
	}
	for _, kinds := range [][]int{{}, {0}, {43}, {60}, {44}, {44, 44}, {0, 60, 43, 44, 60}} {
		for _, follows := range []int{6, 58, 59} {
			found = append(found, sixBytes(chained(kinds, follows, "\x80data")))
		}
	}
	p := six()
	p.Data = ""
	return append(found, sixBytes(p))
}

func TestMayFewBytes(t *testing.T) {
	expectNever(t, "")
	for first := range 256 {
		for _, n := range []int{0, 1, 2, 18, 19, 20, 38, 39} {
			expectNever(t, string([]byte{byte(first)})+strings.Repeat("\x00", n))
		}
	}
}

// TestMayCut cuts packets short anywhere.
func TestMayCut(t *testing.T) {
	for _, s := range samples() {
		expectMay(t, s, true)
		for n := range len(s) {
			expectNever(t, s[:n])
		}
	}
}

// TestMayFirstByte has each first byte: that of the other family, and of none, is that of
// no packet.
func TestMayFirstByte(t *testing.T) {
	for first := range 256 {
		for _, isSix := range families {
			s := string([]byte{byte(first)}) + good(isSix)[1:] + strings.Repeat("\x00", 60)
			if want := isSix && first/16 == 6 || !isSix && first == 0x45; excuse.May(s) != want {
				t.Errorf("Y1: May of a packet with the first byte %d, of IPv6 %t, is not %t", first, isSix, want)
			}
		}
	}
}

// between is the bytes of a packet from one address to another one.
func between(from, to api.Addr) string {
	if from.Six {
		p := six()
		p.From, p.To = from, to
		return sixBytes(p)
	}
	p := four()
	p.From, p.To = from, to
	return fourBytes(p)
}

func TestMayEnds(t *testing.T) {
	for _, isSix := range families {
		x := of(isSix)
		for _, from := range x.all() {
			for _, to := range x.all() {
				expectMay(t, between(from, to), slices.Contains(x.hosts, from) && !slices.Contains(x.many, to))
			}
		}
	}
}

// TestMayFourSum has packets with each byte of the header as another one, so that the
// checksum is wrong, and with other checksums.
func TestMayFourSum(t *testing.T) {
	p := four()
	p.Options = "\x83\x04\x00\x07"
	s := fourBytes(p)
	for i := range 24 {
		for bit := range 8 {
			x := []byte(s)
			x[i] ^= 1 << bit
			expectNever(t, string(x))
			expectNever(t, string(x)+"behind")
		}
	}
	for n := range 65536 {
		if x := s[:10] + big(uint64(n), 2) + s[12:]; excuse.May(x) != (x == s) {
			t.Errorf("Y1: May of a packet with the checksum %d is %t", n, x != s)
		}
	}
}

func TestMayFourOff(t *testing.T) {
	for _, flag := range families {
		for off := range 8192 {
			p := four()
			p.Off, p.Df, p.Mf = off, flag && off%3 == 0, flag
			if s := fourBytes(p); excuse.May(s) != (off == 0) {
				t.Fatalf("Y1: May of a packet with Off %d, Df %t, Mf %t is %t", off, p.Df, p.Mf, off != 0)
			}
		}
	}
	p := four()
	p.Df = true
	expectMay(t, fourBytes(p), true)
	p.Mf = true
	expectMay(t, fourBytes(p), true)
	p.Off = 1
	expectMay(t, fourBytes(p), false)
	p.Proto, p.Data = 1, "\x08"
	expectMay(t, fourBytes(p), false)
}

// optionsOf are options of some lengths, full of the kinds of errors, and of others.
func optionsOf() []string {
	return []string{"", "\x01\x01\x01\x01", "\x03\x04\x03\x03", "\x08\x04\x08\x08", "\x83\x08\x03\x03\x03\x03\x03\x03", "\x83\x08\x08\x08\x08\x08\x08\x08", strings.Repeat("\x03\x04\x03\x03", 10), strings.Repeat("\x01", 39) + "\x00"}
}

// TestMayFourKinds has each first byte of a message, with options that end with others.
func TestMayFourKinds(t *testing.T) {
	for _, options := range optionsOf() {
		p := four()
		p.Options, p.Proto, p.Data = options, 1, ""
		expectMay(t, fourBytes(p), false)
		for kind := range 256 {
			for _, more := range []string{"", "\x00", "\x03\x03\x03\x03\x03\x03\x03", "\x08\x08\x08\x08\x08\x08\x08\x08"} {
				p.Data = string([]byte{byte(kind)}) + more
				expectMay(t, fourBytes(p), !slices.Contains([]int{3, 4, 5, 11, 12}, kind))
			}
		}
	}
}

// TestMayFourProtos has each Proto: only a message must not be an error, and have a Kind.
func TestMayFourProtos(t *testing.T) {
	for proto := range 256 {
		for _, options := range optionsOf() {
			for _, data := range []string{"", "\x03", "\x01", "\x0b\x00", "\x08", "\x80"} {
				p := four()
				p.Options, p.Proto, p.Data = options, proto, data
				expectMay(t, fourBytes(p), proto != 1 || data != "" && data[0] != 3 && data[0] != 11)
			}
		}
	}
}

// TestMaySixProtos has each Next that is no extension header's, with any Data.
func TestMaySixProtos(t *testing.T) {
	for next := range 256 {
		for _, data := range []string{"", "\x03", "\x01", "\x7f\x00", "\x80", "\x00\x00\x00"} {
			p := six()
			p.Next, p.Data = next, data
			switch next {
			case 0, 43, 44, 60:
				expectMay(t, sixBytes(p), false) // its header is cut short
			case 58:
				expectMay(t, sixBytes(p), data == "\x80")
			default:
				expectMay(t, sixBytes(p), true)
			}
		}
	}
}

// orders are some orders of extension headers that may be.
var orders = [][]int{
	nil, {0}, {43}, {60}, {44}, {0, 43}, {0, 44}, {43, 60}, {60, 43}, {44, 60}, {60, 44}, {44, 44}, {0, 60, 43, 44, 60}, {43, 43, 43},
	{0, 60, 60, 60, 60, 60, 60, 60, 60, 60, 60, 60, 60, 60, 60, 44}, {44, 44, 44, 44, 44, 44, 44, 44, 44, 44, 44, 44, 44, 44, 44, 44},
}

// TestMaySixKinds has each first byte of a message, behind extension headers.
func TestMaySixKinds(t *testing.T) {
	for _, kinds := range orders {
		expectMay(t, sixBytes(chained(kinds, 58, "")), false)
		for kind := range 256 {
			for _, more := range []string{"", "\x00\x00\x00", "\x80\x80\x80\x80\x80\x80\x80\x80\x80"} {
				expectMay(t, sixBytes(chained(kinds, 58, string([]byte{byte(kind)})+more)), kind >= 128)
			}
		}
	}
}

// TestMaySixCarried has what is no message behind extension headers: it may have any
// bytes, or none.
func TestMaySixCarried(t *testing.T) {
	for _, kinds := range orders {
		for _, follows := range []int{1, 2, 4, 6, 17, 42, 45, 57, 59, 61, 255} {
			for _, data := range []string{"", "\x01", "\x03\x00", "\x80", strings.Repeat("\x00", 40)} {
				expectMay(t, sixBytes(chained(kinds, follows, data)), true)
			}
		}
	}
}

// TestMaySixChain has extension headers that are not accepted.
func TestMaySixChain(t *testing.T) {
	for _, kinds := range orders {
		for _, follows := range []int{17, 58} {
			behind := slices.Concat(kinds, []int{0})
			if len(kinds) > 0 { // a 0 that is not first
				expectMay(t, sixBytes(chained(behind, follows, "\x80data")), false)
			}
			for _, kind := range []int{43, 60, 44} {
				behind[len(kinds)] = kind
				expectMay(t, sixBytes(chained(behind, follows, "\x80data")), len(kinds) < 16)
			}
			p := chained(kinds, follows, "")
			for n := range len(p.Data) { // cut short in a header; or what follows is missing
				q := p
				q.Data = p.Data[:n]
				expectMay(t, sixBytes(q), false)
			}
			expectMay(t, sixBytes(p), follows != 58)
		}
	}
}

// TestMaySixPiece has each number in the bytes 2 and 3 of a header of the kind 44: by
// itself, and behind and ahead of others.
func TestMaySixPiece(t *testing.T) {
	for n := range 65536 {
		p := six()
		p.Next, p.Data = 44, piece(17, n)+"data"
		if s := sixBytes(p); excuse.May(s) != (n < 8) {
			t.Fatalf("Y1: May of a packet whose header 44 has the number %d is %t", n, n >= 8)
		}
	}
	for _, n := range []int{0, 1, 7, 8, 9, 15, 16, 255, 256, 257, 2048, 32768, 65528, 65535} {
		for _, m := range []int{0, 6, 7, 8, 256, 32768} {
			for _, follows := range []int{17, 58} {
				p, may := six(), n < 8 && m < 8
				p.Next, p.Data = 44, piece(44, n)+piece(follows, m)+"\x80"
				expectMay(t, sixBytes(p), may)
				p.Data = piece(60, n) + header(60, 44, 2) + piece(follows, m) + "\x80"
				expectMay(t, sixBytes(p), may)
				p.Next, p.Data = 0, header(0, 44, 1)+piece(43, n)+header(43, 44, 3)+piece(follows, m)+"\x80"
				expectMay(t, sixBytes(p), may)
			}
		}
	}
}

// TestMaySixNoPiece has other headers with any bytes 2 and 3, and what looks like a header
// of the kind 44 in them, and behind all headers.
func TestMaySixNoPiece(t *testing.T) {
	for _, kind := range []int{0, 43, 60} {
		p := six()
		p.Next, p.Data = kind, string([]byte{17, 1, 0xff, 0xff, 0, 0, 0, 0})+piece(44, 0xffff)+piece(44, 0xffff)
		expectMay(t, sixBytes(p), true)
		p.Data = string([]byte{44, 1, 0xff, 0xff, 0, 0, 0, 0}) + piece(44, 0xffff) + piece(17, 7) + piece(44, 0xffff)
		expectMay(t, sixBytes(p), true)
	}
}

// TestMayBehindEnd has packets that end ahead of their message, or within a header.
func TestMayBehindEnd(t *testing.T) {
	p := four()
	p.Proto, p.Data = 1, ""
	expectNever(t, fourBytes(p)+"\x08\x00\x00\x00")
	for _, kinds := range orders {
		expectNever(t, sixBytes(chained(kinds, 58, ""))+"\x80\x00\x00\x00")
		if q := chained(kinds, 17, "data"); len(kinds) > 0 {
			whole := q.Data
			q.Data = whole[:len(whole)-5]
			expectNever(t, sixBytes(q)+whole[len(whole)-5:])
		}
	}
}

// TestMayOtherFamily has the numbers that mean something in the other family only.
func TestMayOtherFamily(t *testing.T) {
	for _, proto := range []int{58, 44, 0, 43, 60} {
		for _, data := range []string{"", "\x01", "\x3a\x00\xff\xff\x00\x00\x00\x00"} {
			p := four()
			p.Proto, p.Data = proto, data
			expectMay(t, fourBytes(p), true)
		}
	}
	for _, data := range []string{"", "\x03", "\x0b\x00"} {
		p := six()
		p.Next, p.Data = 1, data
		expectMay(t, sixBytes(p), true)
	}
}
