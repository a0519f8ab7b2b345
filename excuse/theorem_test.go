package excuse_test

import (
	"math"
	"slices"
	"strings"
	"testing"
	"unsafe"

	"crossway/api"
	"crossway/excuse"
)

// end is one of the addresses of a family, most often a host's.
func end(s *source, isSix bool) api.Addr {
	if s.below(8) == 0 {
		return one(s, of(isSix).all())
	}
	return one(s, of(isSix).hosts)
}

// size is a number of bytes, most often a small one.
func size(s *source) int {
	return s.below([]int{1, 10, 40, 1300, 3000}[s.below(5)])
}

// anyFour is a packet that looks like chance.
func anyFour(s *source) string {
	p := api.Four{Tos: s.below(256), ID: s.below(65536), Df: s.below(2) == 0, Mf: s.below(2) == 0, Ttl: s.below(256), From: end(s, false), To: end(s, false)}
	p.Proto = one(s, []int{1, 1, 1, 6, 17, 58, s.below(256)})
	if s.below(6) == 0 {
		p.Off = s.below(8192)
	}
	p.Options, p.Data = one(s, optionsOf()), s.text(size(s))
	if p.Data != "" && s.below(2) == 0 {
		p.Data = string([]byte{byte(s.below(14))}) + p.Data[1:]
	}
	return fourBytes(p)
}

// anySix is a packet that looks like chance, most often with headers that are accepted.
func anySix(s *source) string {
	p := api.Six{Class: s.below(256), Flow: s.below(1 << 20), Hops: s.below(256), From: end(s, true), To: end(s, true)}
	p.Next, p.Data = one(s, []int{58, 58, 58, 17, 59, 1, s.below(256)}), s.text(size(s))
	for range s.below(18) {
		kind := one(s, []int{43, 60, 44})
		x := header(kind, p.Next, 1+s.below(3))
		if kind == 44 && s.below(4) == 0 {
			x = piece(p.Next, s.below(16))
		}
		p.Next, p.Data = kind, x+p.Data
		if s.below(3) == 0 {
			break
		}
	}
	if s.below(4) == 0 {
		p.Next, p.Data = 0, header(0, p.Next, 1+s.below(3))+p.Data
	}
	if s.below(10) == 0 {
		p.Data = p.Data[:s.below(len(p.Data)+1)]
	}
	return sixBytes(p)
}

// anyPacket is one of either family, with something behind it, or changed somewhere.
func anyPacket(s *source) string {
	x := anyFour(s)
	if s.below(2) == 0 {
		x = anySix(s)
	}
	switch s.below(10) {
	case 0:
		return x + s.text(size(s))
	case 1:
		return x[:s.below(len(x)+1)]
	case 2:
		b := []byte(x)
		b[s.below(len(b))] = byte(s.next() >> 20)
		return string(b)
	}
	return x
}

// TestTheorem holds what is said of many packets against the plain way, and expects what
// Y3 says of the errors for them.
func TestTheorem(t *testing.T) {
	s, sent := source(1), map[bool]int{}
	for range 40000 {
		x := anyPacket(&s)
		isSix, may := plainIsSix(x), plainMay(x)
		if excuse.May(x) != may {
			t.Fatalf("Y1: May of %d bytes %q is %t", len(x), start(x), !may)
		}
		why, from, rest := one(&s, reasons), one(&s, of(isSix).hosts), s.below(256)
		if !may {
			expectOfError(t, why, x, from, rest, api.ErrExcuseNot)
			continue
		}
		told := fourRest(why, rest)
		if isSix {
			told = sixRest(why, rest)
		}
		expectOf(t, why, x, from, rest, plainQuote(x), told)
		sent[isSix]++
	}
	if sent[false] < 5000 || sent[true] < 3000 {
		t.Errorf("errors are sent for %d IPv4 packets and %d IPv6 packets only", sent[false], sent[true])
	}
}

// TestErrorsOfSixFitAnyLink has IPv6 packets of each length about the greatest quotation.
func TestErrorsOfSixFitAnyLink(t *testing.T) {
	for n := range 1500 {
		p := six()
		p.Data = strings.Repeat("\x80", n)
		x, e := excuse.Of(1, sixBytes(p), here(true), 0)
		if len(x) != min(1280, 48+40+n) || e != api.OK {
			t.Fatalf("Y2: the error for a packet of %d bytes has %d, error %d", 40+n, len(x), e)
		}
	}
}

// hostOf is a text's bytes as a text that shares their memory, which nothing but such a
// trick can make.
func hostOf(b []byte) string { return unsafe.String(&b[0], len(b)) }

// TestNoBytesAreKept writes over the memory of a packet: no result may change with it, and
// no call may have changed it.
func TestNoBytesAreKept(t *testing.T) {
	for _, x := range samples() {
		isSix := plainIsSix(x)
		for _, why := range reasons {
			b := []byte(x + "behind")
			if !excuse.May(hostOf(b)) {
				t.Errorf("Y1: May of %q is false", start(x))
			}
			got, e := excuse.Of(why, hostOf(b), here(isSix), 9)
			if string(b) != x+"behind" {
				t.Errorf("R3: the bytes %q have become %q", start(x), start(string(b)))
			}
			for i := range b {
				b[i] = 'X'
			}
			if got != plainOf(why, x, here(isSix), 9) || e != api.OK {
				t.Errorf("R3: the error for %q shares its memory: %q %d", start(x), start(got), e)
			}
		}
	}
}

// TestResultsAreApart writes over the memory of results: others stay as they are.
func TestResultsAreApart(t *testing.T) {
	for _, x := range samples() {
		isSix := plainIsSix(x)
		got, _ := excuse.Of(1, x, here(isSix), 0)
		again, _ := excuse.Of(1, x, here(isSix), 0)
		b := unsafe.Slice(unsafe.StringData(got), len(got))
		for i := range b {
			b[i] = 'X'
		}
		later, _ := excuse.Of(1, x, here(isSix), 0)
		if want := plainOf(1, x, here(isSix), 0); again != want || later != want || !excuse.May(x) {
			t.Errorf("R3: the results for %q share their memory", start(x))
		}
	}
}

// TestSameAgain has the same calls twice, in another order, with others between.
func TestSameAgain(t *testing.T) {
	s := source(2)
	var packets []string
	var first []string
	tell := func(i int) string {
		x := packets[i]
		got, e := excuse.Of(1+i%6, x, here(plainIsSix(x)), i%256)
		return got + big(uint64(e), 2)
	}
	for i := range 2000 {
		packets = append(packets, anyPacket(&s))
		first = append(first, tell(i))
	}
	for i, want := range slices.Backward(first) {
		excuse.Kind(i, i%2 == 0)
		if tell(i) != want {
			t.Fatalf("R4: Of %q is another one now", start(packets[i]))
		}
	}
}

// TestNothingPanics gives the calls whatever may be given to them: each ends.
func TestNothingPanics(t *testing.T) {
	s := source(3)
	whys := slices.Concat(reasons, notReasons)
	rests := slices.Concat(byteRests, moreRests, noRests)
	froms := slices.Concat(of(false).all(), of(true).all(), invalid, []api.Addr{{Six: true, Hi: math.MaxUint64, Lo: math.MaxUint64}})
	try := func(x string) {
		if may := excuse.May(x); may != plainMay(x) {
			t.Fatalf("Y1: May of %d bytes %q is %t", len(x), start(x), may)
		}
		why, from, rest := one(&s, whys), one(&s, froms), one(&s, rests)
		got, e := excuse.Of(why, x, from, rest)
		if (got == "") == (e == api.OK) {
			t.Fatalf("R1: Of(%d, %q, %v, %d) is %d bytes, error %d", why, start(x), from, rest, len(got), e)
		}
		if e == api.OK && got != plainOf(why, x, from, rest) {
			t.Fatalf("Y2: Of(%d, %q, %v, %d) is %q", why, start(x), from, rest, start(got))
		}
	}
	for range 40000 {
		try(anyPacket(&s))
		x := []byte(s.text(s.below(90)))
		if len(x) > 6 {
			x[0] = byte(0x45 + 0x1b*s.below(2) + s.below(2))
			copy(x[2:], big(uint64(s.below(100)), 2))
			copy(x[4:], big(uint64(s.below(60)), 2))
			x[6] = one(&s, []byte{0, 43, 44, 58, 60, 17})
		}
		try(string(x))
	}
	for _, n := range []int{65535, 65536, 1 << 20} {
		for _, first := range []string{"\x00", "\x45", "\x4f", "\x60", "\xff"} {
			try(strings.Repeat(first, n))
			try(first + strings.Repeat("\x00", n))
			try(first + strings.Repeat("\x3c", n))
		}
	}
}
