package excuse_test

import (
	"math"
	"slices"
	"strings"
	"testing"

	"crossway/addr"
	"crossway/api"
	"crossway/excuse"
	"crossway/icmp"
	"crossway/ip4"
	"crossway/ip6"
)

// message is the one in a packet of a family, whose fields must be those of an error.
func message(t *testing.T, s string, from, to api.Addr) api.Icmp {
	t.Helper()
	var data string
	if from.Six {
		p, e := ip6.Take(s)
		data, p.Data = p.Data, ""
		if want := (api.Six{Next: 58, Hops: 64, From: from, To: to}); p != want || e != api.OK {
			t.Errorf("Y2: the packet is %v, error %d, not %v", p, e, want)
		}
	} else {
		p, e := ip4.Take(s)
		data, p.Data = p.Data, ""
		if want := (api.Four{Ttl: 64, Proto: 1, From: from, To: to}); p != want || e != api.OK {
			t.Errorf("Y2: the packet is %v, error %d, not %v", p, e, want)
		}
	}
	m, e := icmp.Take(data, from.Six, from, to)
	if e != api.OK {
		t.Errorf("Y2: the message of %d bytes %q has the error %d", len(data), start(data), e)
	}
	return m
}

// expectOf expects that an error is sent for a packet, with a certain quotation and Rest.
func expectOf(t *testing.T, why int, s string, from api.Addr, rest int, quote string, told int) {
	t.Helper()
	x, e := excuse.Of(why, s, from, rest)
	if e != api.OK || x != plainOf(why, s, from, rest) {
		t.Errorf("Y2: Of(%d, %d bytes %q, %s, %d) is %d bytes %q, error %d", why, len(s), start(s), addr.Print(from), rest, len(x), start(x), e)
		return
	}
	m := message(t, x, from, sender(s))
	want := api.Icmp{Six: from.Six, Kind: fourTold[why-1].kind, Code: fourTold[why-1].code, Rest: told, Data: quote}
	if from.Six {
		want.Kind, want.Code = sixTold[why-1].kind, sixTold[why-1].code
	}
	if m != want {
		t.Errorf("Y2: the message of Of(%d, %d bytes %q, %s, %d) is %v, with %d bytes of Data", why, len(s), start(s), addr.Print(from), rest, m, len(m.Data))
	}
	if from.Six && len(x) != min(1280, 48+len(quote)) || !from.Six && len(x) != 28+len(quote) {
		t.Errorf("Y2: Of(%d, %d bytes %q, %s, %d) has %d bytes", why, len(s), start(s), addr.Print(from), rest, len(x))
	}
	expectTheorem(t, x, s, m)
}

// sender is the From of a packet that is accepted.
func sender(s string) api.Addr {
	if plainIsSix(s) {
		p, _ := ip6.Take(s)
		return p.From
	}
	p, _ := ip4.Take(s)
	return p.From
}

// expectTheorem expects of an error what Y3 says; message has held its checksums and its
// addresses against those that they should be.
func expectTheorem(t *testing.T, x, s string, m api.Icmp) {
	t.Helper()
	if excuse.May(x) || excuse.May(x+"\x08") || !icmp.IsError(m) {
		t.Errorf("Y3: an error may be sent for %q", start(x))
	}
	if m.Data == "" || !strings.HasPrefix(s, m.Data) {
		t.Errorf("Y3: %q does not quote the beginning of %q", start(x), start(s))
	}
	for _, why := range reasons {
		expectOfError(t, why, x, here(m.Six), 0, api.ErrExcuseNot)
	}
}

func expectOfError(t *testing.T, why int, s string, from api.Addr, rest int, want api.Errno) {
	t.Helper()
	if x, e := excuse.Of(why, s, from, rest); x != "" || e != want {
		t.Errorf("Y2: Of(%d, %d bytes %q, %v, %d) is %d bytes, error %d, not the error %d", why, len(s), start(s), from, rest, len(x), e, want)
	}
}

func TestOfExample(t *testing.T) {
	p := api.Four{Ttl: 64, Proto: 17, From: at("10.0.0.1"), To: at("10.0.0.2"), Data: "\x00\x01\x02\x03\x04\x05\x06\x07\x08\x09\x0a\x0b"}
	s := fourBytes(p)
	x, e := excuse.Of(1, s, at("10.0.0.9"), 5)
	head := "\x45\x00\x00\x38\x00\x00\x00\x00\x40\x01\x66\xbc\x0a\x00\x00\x09\x0a\x00\x00\x01"
	if want := head + "\x0b\x00\xe8\xef\x00\x00\x00\x00" + s[:28]; x != want || e != api.OK {
		t.Errorf("Y2: the example is %q, error %d, not %q", x, e, want)
	}
	expectOfError(t, 1, s, at("::1"), 5, api.ErrArg)
	p.Off = 1
	expectOfError(t, 1, fourBytes(p), at("10.0.0.9"), 5, api.ErrExcuseNot)
	p.Off, p.Proto, p.Data = 0, 1, "\x03"+p.Data
	expectOfError(t, 1, fourBytes(p), at("10.0.0.9"), 5, api.ErrExcuseNot)
}

func TestOfSixExample(t *testing.T) {
	s := sixBytes(api.Six{Next: 59, Hops: 1, From: at("::a"), To: at("::b")})
	x, e := excuse.Of(4, s, at("fe80::1"), 1300)
	ends := "\xfe\x80" + strings.Repeat("\x00", 13) + "\x01" + strings.Repeat("\x00", 15) + "\x0a"
	want := "\x60\x00\x00\x00\x00\x30\x3a\x40" + ends + "\x02\x00\x5e\xdf\x00\x00\x05\x14" + s
	if x != want || e != api.OK {
		t.Errorf("Y2: the error is %q %d, not %q", x, e, want)
	}
}

// fourRest and sixRest are the Rest of a reason's message.
func fourRest(why, rest int) int {
	switch why {
	case 4:
		return rest
	case 6:
		return rest << 24
	}
	return 0
}

func sixRest(why, rest int) int {
	if why == 4 || why == 6 {
		return rest
	}
	return 0
}

// rests are some that may be told, in one byte and in more.
var (
	byteRests = []int{0, 1, 2, 20, 127, 128, 200, 254, 255}
	moreRests = []int{256, 257, 511, 512, 1280, 1500, 32767, 32768, 65280, 65534, 65535}
	noRests   = []int{math.MinInt, math.MinInt + 1, -1 << 32, -65536, -65535, -256, -255, -2, -1, 65536, 65537, 65536 + 255, 1 << 24, 1 << 31, 1 << 32, 1<<32 + 1, 1 << 40, 1 << 62, math.MaxInt - 1, math.MaxInt}
)

func TestOfRest(t *testing.T) {
	s, r := good(false), good(true)
	for _, why := range reasons {
		for _, rest := range slices.Concat(byteRests, moreRests) {
			expectOf(t, why, r, here(true), rest, r, sixRest(why, rest))
			if why == 6 && rest > 255 {
				expectOfError(t, why, s, here(false), rest, api.ErrArg)
			} else {
				expectOf(t, why, s, here(false), rest, s[:28], fourRest(why, rest))
			}
		}
		for _, rest := range noRests {
			expectOfError(t, why, r, here(true), rest, api.ErrArg)
			expectOfError(t, why, s, here(false), rest, api.ErrArg)
		}
	}
}

// TestOfEachRest has all rests.
func TestOfEachRest(t *testing.T) {
	s, r := good(false), good(true)
	for rest := range 65536 {
		for _, why := range []int{4, 6} {
			if x, e := excuse.Of(why, r, here(true), rest); e != api.OK || x != plainOf(why, r, here(true), rest) {
				t.Fatalf("Y2: Of(%d, %q, %d) is %q, error %d", why, r, rest, x, e)
			}
			x, e := excuse.Of(why, s, here(false), rest)
			if wrong := why == 6 && rest > 255; wrong && (x != "" || e != api.ErrArg) || !wrong && (x != plainOf(why, s, here(false), rest) || e != api.OK) {
				t.Fatalf("Y2: Of(%d, %q, %d) is %q, error %d", why, s, rest, x, e)
			}
		}
	}
}

// TestOfEnds has each class and family of from, and each right From.
func TestOfEnds(t *testing.T) {
	for _, isSix := range families {
		x, y := of(isSix), of(!isSix)
		for _, why := range reasons {
			for _, from := range x.hosts {
				for _, origin := range x.hosts {
					s := between(origin, x.lone[0])
					quote := s
					if !isSix {
						quote = s[:28]
					}
					expectOf(t, why, s, from, 0, quote, 0)
				}
			}
			for _, from := range slices.Concat(x.lone, x.many, y.all(), invalid) {
				expectOfError(t, why, good(isSix), from, 0, api.ErrArg)
			}
		}
	}
}

// refused are packets of both families for which no error may be sent.
func refused(isSix bool) []string {
	x := of(isSix)
	s, other := good(isSix), of(isSix).hosts[0]
	found := []string{s[:1], s[:19], s[:20], s[:len(s)-1], between(x.many[0], other), between(x.lone[0], other), between(other, x.many[1])}
	if isSix {
		found = append(found, "\x60", "\x6f", strings.Repeat("\x6f", 39), strings.Repeat("\x60", 60))
		for _, kinds := range orders {
			found = append(found, sixBytes(chained(kinds, 58, "")), sixBytes(chained(kinds, 58, "\x01\x00")))
		}
		p := six()
		p.Next, p.Data = 44, piece(17, 8)
		return append(found, sixBytes(p))
	}
	p, q := four(), four()
	p.Off, q.Proto, q.Data = 3, 1, "\x0b\x00"
	found = append(found, "", "\x00", "\x45", "\x5f", "\x70", "\xff", strings.Repeat("\x45", 60), strings.Repeat("\x00", 60), strings.Repeat("\xff", 60))
	return append(found, fourBytes(p), fourBytes(q), s[:11]+"\x00"+s[12:])
}

func TestOfNot(t *testing.T) {
	for _, isSix := range families {
		for _, s := range refused(isSix) {
			expectNever(t, s)
			for _, why := range reasons {
				for _, from := range of(isSix).hosts {
					expectOfError(t, why, s, from, 0, api.ErrExcuseNot)
				}
				expectOfError(t, why, s, here(isSix), 255, api.ErrExcuseNot)
				if isSix || why != 6 {
					expectOfError(t, why, s, here(isSix), 65535, api.ErrExcuseNot)
				}
			}
		}
	}
}

// TestOfArg has arguments of which one or several are wrong, for packets for which an error
// may be sent, and for others: the arguments come first.
func TestOfArg(t *testing.T) {
	for _, isSix := range families {
		x := of(isSix)
		wrongFrom := slices.Concat(x.lone, x.many, of(!isSix).all(), invalid)
		for _, s := range slices.Concat([]string{good(isSix), good(isSix) + "behind"}, refused(isSix)) {
			for _, why := range notReasons {
				expectOfError(t, why, s, here(isSix), 0, api.ErrArg)
				expectOfError(t, why, s, here(isSix), -1, api.ErrArg)
				expectOfError(t, why, s, here(isSix), 65536, api.ErrArg)
				expectOfError(t, why, s, here(!isSix), 0, api.ErrArg)
				expectOfError(t, why, s, x.many[0], -1, api.ErrArg)
			}
			for _, why := range reasons {
				for _, from := range wrongFrom {
					expectOfError(t, why, s, from, 0, api.ErrArg)
					expectOfError(t, why, s, from, -1, api.ErrArg)
				}
				for _, rest := range noRests {
					expectOfError(t, why, s, here(isSix), rest, api.ErrArg)
				}
			}
			if !isSix {
				for _, rest := range moreRests {
					expectOfError(t, 6, s, here(false), rest, api.ErrArg)
				}
			}
		}
	}
}

// TestOfFamily has each first byte: it says in which family from must be, also where there
// is no packet.
func TestOfFamily(t *testing.T) {
	for first := range 256 {
		for _, more := range []string{"", "\x00", strings.Repeat("\x00", 60)} {
			s, isSix := string([]byte{byte(first)})+more, first/16 == 6
			for _, why := range reasons {
				expectOfError(t, why, s, here(!isSix), 0, api.ErrArg)
				expectOfError(t, why, s, here(isSix), 0, api.ErrExcuseNot)
			}
		}
	}
	for _, why := range reasons {
		expectOfError(t, why, "", here(true), 0, api.ErrArg)
		expectOfError(t, why, "", here(false), 0, api.ErrExcuseNot)
	}
}

// TestOfFourQuote has headers and Data of many lengths: the header is quoted, and 8 more
// bytes, if there are so many.
func TestOfFourQuote(t *testing.T) {
	for words := range 11 {
		for _, n := range []int{0, 1, 2, 3, 4, 5, 6, 7, 8, 9, 10, 100, 1480, 65515 - 40} {
			p := four()
			p.Options, p.Data = strings.Repeat("\x01", 4*words), strings.Repeat("0123456789", n/10+1)[:n]
			s := fourBytes(p)
			for _, behind := range []string{"", "b", "behind", strings.Repeat("behind", 300)} {
				for _, why := range reasons {
					expectOf(t, why, s+behind, here(false), 77, s[:20+4*words+min(n, 8)], fourRest(why, 77))
				}
			}
		}
	}
}

// TestOfFourAsk has echo requests and other messages that are no errors.
func TestOfFourAsk(t *testing.T) {
	for _, kind := range []int{0, 1, 2, 6, 7, 8, 9, 10, 13, 30, 128, 255} {
		for _, options := range optionsOf() {
			p := four()
			p.Options, p.Proto, p.Data = options, 1, string([]byte{byte(kind)})+"\x00\x01\x02\x03"
			s := fourBytes(p)
			expectOf(t, 3, s, here(false), 0, s, 0)
		}
	}
}

// TestOfFourSame has a checksum of 65535 in place of 0: what is quoted is as it came.
func TestOfFourSame(t *testing.T) {
	p, found := four(), 0
	for id := range 65536 {
		p.ID = id
		if s := fourBytes(p); s[10:12] == "\x00\x00" {
			s = s[:10] + "\xff\xff" + s[12:]
			expectMay(t, s, true)
			expectOf(t, 2, s, here(false), 0, s[:28], 0)
			found++
		}
	}
	if found == 0 {
		t.Error("no packet has the checksum 0")
	}
}

// TestOfSixQuote has packets just short enough to be quoted whole, and longer ones.
func TestOfSixQuote(t *testing.T) {
	for _, size := range []int{40, 41, 48, 100, 1000, 1230, 1231, 1232, 1233, 1234, 1279, 1280, 1281, 1500, 40 + 65534, 40 + 65535} {
		p := six()
		p.Data = strings.Repeat("0123456789", size)[:size-40]
		s := sixBytes(p)
		for _, behind := range []string{"", "b", "behind", strings.Repeat("behind", 300)} {
			for _, why := range reasons {
				expectOf(t, why, s+behind, here(true), 1280, s[:min(size, 1232)], sixRest(why, 1280))
			}
		}
	}
}

// TestOfSixChain has packets with extension headers, ahead of several things.
func TestOfSixChain(t *testing.T) {
	for _, kinds := range orders {
		for _, follows := range []int{17, 58, 59} {
			for _, n := range []int{1, 100, 2000} {
				s := sixBytes(chained(kinds, follows, strings.Repeat("\x80", n)))
				for _, why := range reasons {
					expectOf(t, why, s+"behind", here(true), 40, s[:min(len(s), 1232)], sixRest(why, 40))
				}
			}
		}
	}
}
