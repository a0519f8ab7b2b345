package neigh_test

import (
	"slices"
	"testing"

	"crossway/addr"
	"crossway/api"
)

// A new cache knows nobody, and has nothing to do.
func TestNew(t *testing.T) {
	b := newPair(t)
	for _, port := range slices.Concat(rightPorts, wrongPorts) {
		for _, a := range slices.Concat(rightAddrs, wrongAddrs) {
			b.is(port, a, 0, 0)
		}
		expect(t, b.drop(port))
	}
	if l := b.c.Known(); len(l) != 0 {
		t.Errorf("X1: Known of a new cache is %v", l)
	}
	b.ticks(40)
	b.same()
	b.end()
}

// Each port, address and mac that there may be.
func TestRightArgs(t *testing.T) {
	for _, port := range rightPorts {
		for _, a := range rightAddrs {
			b := newPair(t)
			expect(t, b.send(port, a, "p"), asked(port, a, 0))
			b.is(port, a, 1, 0)
			expect(t, b.tell(port, a, 7, true, true), sent(port, a, 7, "p"))
			b.is(port, a, 2, 7)
			for _, mac := range rightMacs {
				b := newPair(t)
				expect(t, b.learn(port, a, mac))
				b.is(port, a, 3, mac)
				expect(t, b.tell(port, a, mac, true, true))
				b.is(port, a, 2, mac)
				expect(t, b.send(port, a, "q"), sent(port, a, mac, "q"))
				b.same()
			}
		}
	}
}

// expectWrong expects an error without anything beside it.
func expectWrong(t *testing.T, what string, port int, a api.Addr, mac api.Mac, got []api.Act, e api.Errno) {
	t.Helper()
	if len(got) != 0 || e != api.ErrArg {
		t.Fatalf("X1: %s of %d, %v (class %d), %d is %s, error %d", what, port, a, addr.Class(a), mac, show(got), e)
	}
}

// refuses expects that a cache takes neither a packet for a neighbour, nor knows it.
func refuses(t *testing.T, b pair, port int, a api.Addr) {
	t.Helper()
	got, e := b.c.Send(port, a, "refused")
	expectWrong(t, "Send", port, a, 0, got, e)
	b.is(port, a, 0, 0)
}

// refusesMac expects that a cache hears nothing of a neighbour with a mac.
func refusesMac(t *testing.T, b pair, port int, a api.Addr, mac api.Mac) {
	t.Helper()
	got, e := b.c.Learn(port, a, mac)
	expectWrong(t, "Learn", port, a, mac, got, e)
	for _, answer := range bools {
		for _, over := range bools {
			got, e := b.c.Tell(port, a, mac, answer, over)
			expectWrong(t, "Tell", port, a, mac, got, e)
		}
	}
}

// One wrong argument, or several at once, of caches of several kinds: nothing changes, now
// or later.
func TestWrongArgs(t *testing.T) {
	for _, b := range fewAndMany(t) {
		for _, port := range slices.Concat(wrongPorts, rightPorts) {
			for _, a := range slices.Concat(wrongAddrs, rightAddrs) {
				if slices.Contains(wrongPorts, port) || slices.Contains(wrongAddrs, a) {
					refuses(t, b, port, a)
					for _, mac := range rightMacs {
						refusesMac(t, b, port, a, mac)
					}
				}
				for _, mac := range wrongMacs {
					refusesMac(t, b, port, a, mac)
				}
			}
		}
		b.same()
		b.end()
	}
}

// Of a neighbour of each state, a wrong mac changes nothing, and lets no packet go.
func TestWrongMacOfKnown(t *testing.T) {
	for state := api.NeighNone; state <= api.NeighProbe; state++ {
		for _, mac := range wrongMacs {
			b := newPair(t)
			b.become(3, six, state, 5)
			refusesMac(t, b, 3, six, mac)
			b.same()
			b.end()
		}
	}
}

// A neighbour of one port or family is not known by another one.
func TestKeysAreApart(t *testing.T) {
	b := newPair(t)
	like := []api.Addr{{Lo: 10<<24 + 2}, {Six: true, Lo: 10<<24 + 2}, {Six: true, Hi: 1, Lo: 10<<24 + 2}, {Lo: 10<<24 + 3}, {Six: true, Hi: 10<<24 + 2}}
	for i, a := range like {
		for _, port := range rightPorts {
			b.is(port, a, 0, 0)
			expect(t, b.learn(port, a, api.Mac(8*i+port)))
			b.same()
		}
	}
	for i, a := range like {
		for _, port := range rightPorts {
			mac := api.Mac(8*i + port)
			expect(t, b.send(port, a, "p"), sent(port, a, mac, "p"))
			b.is(port, a, 4, mac)
		}
	}
	b.end()
}
