package excuse_test

import (
	"math"
	"slices"
	"strings"
	"testing"

	"crossway/addr"
	"crossway/api"
	"crossway/excuse"
	"crossway/ip4"
	"crossway/ip6"
)

// source tells numbers that look like chance, the same ones in each run.
type source uint64

func (s *source) next() uint64 {
	*s = *s*6364136223846793005 + 1442695040888963407
	return uint64(*s ^ *s>>29)
}

func (s *source) below(n int) int { return int(s.next() >> 11 % uint64(n)) }

// text is so many bytes that look like chance.
func (s *source) text(n int) string {
	b := make([]byte, n)
	for i := range b {
		b[i] = byte(s.next() >> 20)
	}
	return string(b)
}

// one is one of a list.
func one[T any](s *source, l []T) T { return l[s.below(len(l))] }

// start is the beginning of a text, to be told.
func start(s string) string { return s[:min(len(s), 100)] }

// big is a number in so many bytes, the most significant one first.
func big(n uint64, width int) string {
	b := make([]byte, width)
	for i := range b {
		b[i] = byte(n >> (8 * (width - 1 - i)))
	}
	return string(b)
}

// at is the address that a text is.
func at(s string) api.Addr {
	a, e := addr.Parse(s)
	if e != api.OK {
		panic(s)
	}
	return a
}

// ats are the addresses that some texts are.
func ats(texts ...string) (l []api.Addr) {
	for _, s := range texts {
		l = append(l, at(s))
	}
	return l
}

// ends are addresses of one family: hosts are of the classes Plain and Link, also those
// beside which are others; lone of those that neither are these nor many.
type ends struct{ hosts, lone, many []api.Addr }

// of is the addresses of a family.
func of(six bool) ends {
	if six {
		return ends{
			ats("::2", "::a00:2", "::1:0:0:0:1", "2001:db8::2", "fe7f:ffff:ffff:ffff:ffff:ffff:ffff:ffff", "fe80::", "fe80::2", "febf:ffff:ffff:ffff:ffff:ffff:ffff:ffff", "fec0::", "feff:ffff:ffff:ffff:ffff:ffff:ffff:ffff"),
			ats("::", "::1"),
			ats("ff00::", "ff02::1", "ff02::1:ff00:2", "ffff:ffff:ffff:ffff:ffff:ffff:ffff:ffff"),
		}
	}
	return ends{
		ats("0.0.0.1", "1.0.0.0", "10.0.0.2", "126.255.255.255", "128.0.0.0", "169.253.255.255", "169.254.0.0", "169.254.0.1", "169.254.255.255", "169.255.0.0", "223.255.255.255", "240.0.0.0", "255.255.255.254"),
		ats("0.0.0.0", "127.0.0.0", "127.0.0.1", "127.255.255.255"),
		ats("224.0.0.0", "224.0.0.5", "239.255.255.255", "255.255.255.255"),
	}
}

// all are all of the addresses.
func (x ends) all() []api.Addr { return slices.Concat(x.hosts, x.lone, x.many) }

// invalid are addresses of neither family, some of them like a host's.
var invalid = []api.Addr{{Lo: 1 << 32}, {Lo: 10<<24 + 9 + 1<<32}, {Hi: 1, Lo: 10<<24 + 9}, {Hi: 1}, {Hi: 0xfe80 << 48, Lo: 9}, {Hi: math.MaxUint64, Lo: math.MaxUint64}, {Lo: math.MaxUint64}}

// families are both, as Six says.
var families = []bool{false, true}

// here is the address that most errors come from.
func here(six bool) api.Addr {
	if six {
		return at("2001:db8::9")
	}
	return at("10.0.0.9")
}

// four and six are a packet of each family for which an error may be sent.
func four() api.Four {
	return api.Four{Tos: 7, ID: 0x1234, Ttl: 9, Proto: 17, From: at("10.0.0.1"), To: at("10.0.0.2"), Data: "123456789012"}
}

func six() api.Six {
	return api.Six{Class: 7, Flow: 0x12345, Next: 17, Hops: 9, From: at("2001:db8::1"), To: at("2001:db8::2"), Data: "123456789012"}
}

// fourBytes and sixBytes are the bytes of a valid packet.
func fourBytes(p api.Four) string {
	s, e := ip4.Lay(p)
	if e != api.OK {
		panic(e)
	}
	return s
}

func sixBytes(p api.Six) string {
	s, e := ip6.Lay(p)
	if e != api.OK {
		panic(e)
	}
	return s
}

// good is the bytes of four or six.
func good(isSix bool) string {
	if isSix {
		return sixBytes(six())
	}
	return fourBytes(four())
}

// header is an extension header of a kind, ahead of a number, of so many units of 8 bytes,
// with bytes that are not 0, but for one of the kind 44: that is a first fragment's.
func header(kind, follows, units int) string {
	if kind == 44 {
		return piece(follows, 7)
	}
	return string([]byte{byte(follows), byte(units - 1)}) + strings.Repeat("\xee", 8*units-2)
}

// piece is an extension header of the kind 44 with a number in its bytes 2 and 3.
func piece(follows, n int) string {
	return string([]byte{byte(follows), 0xee, byte(n >> 8), byte(n), 0xee, 0xee, 0xee, 0xee})
}

// chained is a packet with extension headers of some kinds, ahead of something of a number.
func chained(kinds []int, follows int, data string) api.Six {
	p := six()
	p.Next, p.Data = follows, data
	for i, kind := range slices.Backward(kinds) {
		p.Next, p.Data = kind, header(kind, p.Next, 1+i%3)+p.Data
	}
	return p
}

// reasons are all of them, and numbers that are none.
var (
	reasons    = []int{1, 2, 3, 4, 5, 6}
	notReasons = []int{math.MinInt, math.MinInt + 1, math.MinInt + 6, -1 << 32, -256, -6, -1, 0, 7, 8, 12, 255, 256, 257, 262, 65536, 1 << 31, 1 << 32, 1<<32 + 1, 1 << 62, math.MaxInt - 1, math.MaxInt}
)

// told is the kind and the code of a reason's message.
type told struct{ kind, code int }

// fourTold and sixTold are those of the reasons, in their order.
var (
	fourTold = []told{{11, 0}, {3, 0}, {3, 1}, {3, 4}, {3, 13}, {12, 0}}
	sixTold  = []told{{3, 0}, {1, 0}, {1, 3}, {2, 0}, {1, 1}, {4, 0}}
)

func TestKind(t *testing.T) {
	for i, why := range reasons {
		for _, isSix := range families {
			want := fourTold[i]
			if isSix {
				want = sixTold[i]
			}
			if kind, code, ok := excuse.Kind(why, isSix); kind != want.kind || code != want.code || !ok {
				t.Errorf("Y1: Kind(%d, %t) is %d %d %t, not %v", why, isSix, kind, code, ok, want)
			}
		}
	}
}

func TestKindOfNoReason(t *testing.T) {
	for n := range 1000 {
		expectNoKind(t, -n)
		expectNoKind(t, 7+n)
	}
	for _, why := range notReasons {
		expectNoKind(t, why)
	}
}

func expectNoKind(t *testing.T, why int) {
	t.Helper()
	for _, isSix := range families {
		if kind, code, ok := excuse.Kind(why, isSix); kind != 0 || code != 0 || ok {
			t.Errorf("Y1: Kind(%d, %t) is %d %d %t, not 0 0 false", why, isSix, kind, code, ok)
		}
	}
}
