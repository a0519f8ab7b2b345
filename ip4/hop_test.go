package ip4_test

import (
	"strings"
	"testing"

	"crossway/api"
	"crossway/ip4"
)

func expectHop(t *testing.T, s, want string) {
	t.Helper()
	if h, e := ip4.Hop(s); h != want || e != api.OK {
		t.Errorf("F4: Hop of %d bytes %q is %d bytes %q %d, not %q", len(s), start(s), len(h), start(h), e, start(want))
	}
}

func TestHopEachTtl(t *testing.T) {
	for _, p := range []api.Four{small(), full(), zeroSum()} {
		for ttl := range 256 {
			p.Ttl = ttl
			s := plain(p)
			if ttl <= 1 {
				for _, x := range []string{s, s + "behind"} {
					if h, e := ip4.Hop(x); h != "" || e != api.ErrFourHop {
						t.Errorf("F4: Hop with the Ttl %d is %q %d", ttl, h, e)
					}
				}
				continue
			}
			q := p
			q.Ttl = ttl - 1
			expectHop(t, s, plain(q))
			expectHop(t, s+"behind", plain(q))
			expectHop(t, s+strings.Repeat("\xff", 70000), plain(q))
		}
	}
}

// TestHopFaults has packets that can go no further with another fault: the error of
// Take comes first.
func TestHopFaults(t *testing.T) {
	for ttl := range 3 {
		p := full()
		p.Ttl = ttl
		s := plain(p)
		expectTakeError(t, s[:len(s)-1], api.ErrFourShort)
		expectTakeError(t, s[:10]+"\x00\x01"+s[12:], api.ErrFourSum)
		expectTakeError(t, "\x44"+s[1:], api.ErrFourForm)
		expectTakeError(t, patched(p, 6, "\x80"), api.ErrFourForm)
		expectTakeError(t, patched(p, 2, "\x00\x1b"), api.ErrFourForm)
		p.Options = "\x07\x01\x00\x00"
		expectTakeError(t, plain(p), api.ErrFourForm)
	}
	expectTakeError(t, "", api.ErrFourShort)
}

// TestHopEachCheck has checksums of all values, so that the next one is each that
// there is, with and without a carry, for the ends of the word that changes.
func TestHopEachCheck(t *testing.T) {
	for _, c := range [][2]int{{2, 0}, {2, 255}, {64, 17}, {255, 0}, {255, 255}} {
		p := api.Four{Ttl: c[0], Proto: c[1], To: four(10, 0, 0, 1)}
		for id := range 65536 {
			p.ID = id
			s := plain(p)
			p.Ttl--
			expectHop(t, s, plain(p))
			p.Ttl++
			if s[10:12] == "\x00\x00" {
				p.Ttl--
				expectHop(t, s[:10]+"\xff\xff"+s[12:], plain(p))
				p.Ttl++
			}
		}
	}
}

// TestHopTillTheEnd goes as many hops as there are.
func TestHopTillTheEnd(t *testing.T) {
	p := full()
	p.Ttl = 255
	s := plain(p)
	for ttl := 254; ttl >= 1; ttl-- {
		p.Ttl = ttl
		expectHop(t, s, plain(p))
		s, _ = ip4.Hop(s)
	}
	if h, e := ip4.Hop(s); h != "" || e != api.ErrFourHop {
		t.Errorf("F4: Hop at the end is %q %d", h, e)
	}
}
