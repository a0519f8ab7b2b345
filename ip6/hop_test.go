package ip6_test

import (
	"strings"
	"testing"

	"crossway/api"
	"crossway/ip6"
)

func expectHop(t *testing.T, s, want string) {
	t.Helper()
	if h, e := ip6.Hop(s); h != want || e != api.OK {
		t.Errorf("G5: Hop of %d bytes %q is %d bytes %q %d, not %q", len(s), start(s), len(h), start(h), e, start(want))
	}
}

func expectNoHop(t *testing.T, s string) {
	t.Helper()
	if h, e := ip6.Hop(s); h != "" || e != api.ErrSixHop {
		t.Errorf("G5: Hop of %d bytes %q is %q %d, not the error %d", len(s), start(s), start(h), e, api.ErrSixHop)
	}
}

func TestHopEachNumber(t *testing.T) {
	for _, p := range []api.Six{least(), small(), full()} {
		for hops := range 256 {
			p.Hops = hops
			s := plain(p)
			q := p
			q.Hops = hops - 1
			for _, behind := range []string{"", "\x00", "behind", strings.Repeat("\xff", 70000)} {
				if hops <= 1 {
					expectNoHop(t, s+behind)
				} else {
					expectHop(t, s+behind, plain(q))
				}
			}
		}
	}
}

func TestHopEdges(t *testing.T) {
	for _, p := range edges() {
		s := plain(p)
		if p.Hops <= 1 {
			expectNoHop(t, s)
			continue
		}
		p.Hops--
		expectHop(t, s, plain(p))
	}
	p := full()
	p.Data = strings.Repeat("\x01", 65535)
	s := plain(p)
	p.Hops--
	expectHop(t, s, plain(p))
	expectHop(t, s+"behind", plain(p))
}

// TestHopFaults has packets that can go no further with another fault: the error of
// Take comes first.
func TestHopFaults(t *testing.T) {
	for hops := range 3 {
		p := full()
		p.Hops = hops
		s := plain(p)
		expectTakeError(t, s[:len(s)-1], api.ErrSixShort)
		expectTakeError(t, s[:39], api.ErrSixShort)
		expectTakeError(t, "\x5b"+s[1:], api.ErrSixForm)
		expectTakeError(t, "\x70"+s[1:40], api.ErrSixForm)
		expectTakeError(t, head(p, 10)+"some data", api.ErrSixShort)
	}
	expectTakeError(t, "", api.ErrSixShort)
}

// TestHopLeavesHeaders has extension headers in packets, even wrong ones: they go on as
// they are.
func TestHopLeavesHeaders(t *testing.T) {
	for _, kind := range kinds {
		for _, data := range []string{"", "\x00", "\x00\x00\x00\x00\x00\x00\x00\x00", "\x2b\xff\x01"} {
			p := full()
			p.Next, p.Data = kind, data
			s := plain(p)
			p.Hops--
			expectHop(t, s, plain(p))
		}
	}
}

// TestHopTillTheEnd goes as many hops as there are.
func TestHopTillTheEnd(t *testing.T) {
	p := full()
	p.Hops = 255
	s := plain(p)
	for hops := 254; hops >= 1; hops-- {
		p.Hops = hops
		expectHop(t, s, plain(p))
		s, _ = ip6.Hop(s)
	}
	expectNoHop(t, s)
}

func TestHopAnyPacket(t *testing.T) {
	s := source(4)
	for range 20000 {
		p := s.packet()
		laid := plain(p) + s.text(s.below(3)*s.below(40))
		if p.Hops <= 1 {
			expectNoHop(t, laid)
			continue
		}
		p.Hops--
		expectHop(t, laid, plain(p))
	}
}
