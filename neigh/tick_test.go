package neigh_test

import (
	"slices"
	"testing"

	"crossway/api"
)

// Who is Asked is asked three times in all; then its packets fail, in order.
func TestTickAsked(t *testing.T) {
	for _, a := range rightAddrs {
		for count := 1; count <= 5; count++ {
			b := newPair(t)
			packets := b.waits(3, a, count)
			for range 2 {
				b.is(3, a, 1, 0)
				expect(t, b.tick(), asked(3, a, 0))
			}
			b.is(3, a, 1, 0)
			var want []api.Act
			for _, p := range packets {
				want = append(want, failed(3, a, p))
			}
			expect(t, b.tick(), want...)
			b.is(3, a, 0, 0)
			b.same()
			b.ticks(1)
			expect(t, b.send(3, a, "again"), asked(3, a, 0)) // all begins anew
			expect(t, b.tick(), asked(3, a, 0))
			expect(t, b.tick(), asked(3, a, 0))
			expect(t, b.tick(), failed(3, a, "again"))
		}
	}
}

func TestTickReach(t *testing.T) {
	for _, a := range rightAddrs {
		b := newPair(t)
		b.become(3, a, api.NeighReach, 5)
		b.reached(3, a, 5)
		b.end()
	}
}

func TestTickDelayAndProbe(t *testing.T) {
	for _, a := range rightAddrs {
		for _, mac := range rightMacs {
			b := newPair(t)
			b.become(3, a, api.NeighDelay, mac)
			b.delayed(3, a, mac, 5)
			b.same()
			b.ticks(9)
			b.become(3, a, api.NeighProbe, mac) // with one request
			expect(t, b.tick(), asked(3, a, mac))
			expect(t, b.tick(), asked(3, a, mac))
			b.is(3, a, 5, mac)
			b.ticks(1)
			b.is(3, a, 0, 0)
			b.ticks(9)
		}
	}
}

func TestTickStale(t *testing.T) {
	b := newPair(t)
	b.fill(64)
	before := b.c.Known()
	b.ticks(300)
	if l := b.c.Known(); !slices.Equal(l, before) {
		t.Errorf("X5: %v have become %v", before, l)
	}
}

// Each state ends by itself: none is prolonged by what another one does.
func TestTickAllStates(t *testing.T) {
	b := newPair(t)
	for _, port := range rightPorts {
		b.allStates(port, four)
		b.same()
		for range port {
			b.tick()
			b.same()
		}
	}
	for range 50 {
		b.tick()
		b.same()
	}
	for i, x := range b.c.Known() {
		if x.State != 3 {
			t.Errorf("X5: the neighbour %d is %v", i, x)
		}
	}
}

// inOrder are all ports with all of some addresses, in order.
func inOrder(l []api.Addr) (all []api.Neigh) {
	for _, port := range rightPorts {
		for _, a := range l {
			all = append(all, api.Neigh{Port: port, Addr: a})
		}
	}
	return all
}

// mixed is a list in another order.
func mixed[T any](s *source, l []T) []T {
	l = slices.Clone(l)
	for i := range l {
		j := s.below(i + 1)
		l[i], l[j] = l[j], l[i]
	}
	return l
}

// eight are addresses in their order, the numbers of which are in another one if the family,
// or half of the bits, is left out of account.
var eight = ats("0.0.0.9", "10.0.0.2", "128.0.0.1", "255.255.255.254", "::7", "::1:0:0:0:1", "8000::", "fe80::1")

// Whatever the order in which they came: by their ports, then IPv4, then IPv6, by their numbers.
func TestTickOrder(t *testing.T) {
	s := source(1)
	order := inOrder(eight)
	for range 40 {
		b := newPair(t)
		for _, x := range mixed(&s, order) {
			b.send(x.Port, x.Addr, "p")
		}
		var asks, fails []api.Act
		for _, x := range order {
			asks = append(asks, asked(x.Port, x.Addr, 0))
			fails = append(fails, failed(x.Port, x.Addr, "p"), failed(x.Port, x.Addr, "q"))
		}
		expect(t, b.tick(), asks...)
		for _, x := range mixed(&s, order) {
			b.send(x.Port, x.Addr, "q")
		}
		expect(t, b.tick(), asks...)
		expect(t, b.tick(), fails...)
		b.same()
	}
}

// Also of addresses that have no more than one bit that is another one.
func TestTickOrderBits(t *testing.T) {
	var fours, sixes []api.Addr
	for bit := range 28 {
		fours = append(fours, api.Addr{Lo: 16<<24 ^ 1<<bit})
	}
	for bit := range 60 {
		sixes = append(sixes, api.Addr{Six: true, Hi: 3 << 60, Lo: 1 << bit})
	}
	for bit := range 60 {
		sixes = append(sixes, api.Addr{Six: true, Hi: 3<<60 + 1<<bit})
	}
	for n, l := range [][]api.Addr{fours, sixes[:60], sixes[60:]} {
		s, b := source(n), newPair(t)
		for _, a := range mixed(&s, l) {
			b.send(1, a, "p")
		}
		for range 4 {
			b.tick()
			b.same()
		}
	}
}

// Actions of each kind in one tick: entry by entry, and not kind by kind.
func TestTickEachKind(t *testing.T) {
	b := newPair(t)
	a := func(n uint64) api.Addr { return api.Addr{Lo: 10<<24 + n} }
	for n := range uint64(8) { // the even ones are Delay, and Probe in a tick
		if n%2 == 0 {
			b.become(2, a(n), api.NeighDelay, api.Mac(20+n))
		}
	}
	b.ticks(2)
	b.send(2, a(1), "b")
	b.send(2, a(1), "c")
	b.tick()
	b.send(2, a(5), "d")
	b.become(1, a(9), api.NeighReach, 9)
	b.become(2, a(7), api.NeighStale, 7)
	b.tick()
	expect(t, b.tick(), asked(2, a(0), 20), failed(2, a(1), "b"), failed(2, a(1), "c"), asked(2, a(2), 22), asked(2, a(4), 24), asked(2, a(5), 0), asked(2, a(6), 26))
	b.same()
	b.end()
}

// Drop removes those of a port, whatever their states are, and those of the others go on.
func TestDrop(t *testing.T) {
	for _, port := range rightPorts {
		for passed := range 4 {
			b := newPair(t)
			for _, other := range rightPorts {
				b.allStates(other, four)
				b.allStates(other, six)
			}
			for range passed {
				b.tick()
			}
			left := len(b.c.Known())
			here := 0
			for _, x := range b.c.Known() {
				if x.Port == port {
					here++
				}
			}
			b.drop(port)
			if n := len(b.c.Known()); n != left-here {
				t.Fatalf("X5: Drop leaves %d of %d, and not %d", n, left, left-here)
			}
			b.same()
			expect(t, b.drop(port))
			b.same()
			expect(t, b.send(port, four, "new"), asked(port, four, 0))
			b.end()
		}
	}
}

// The packets that waited are lost, entry by entry, in the order of a Tick.
func TestDropOrder(t *testing.T) {
	s := source(2)
	order := inOrder(eight)
	for range 20 {
		b := newPair(t)
		for _, packet := range []string{"o", "p", "q", "r"} {
			for _, x := range mixed(&s, order) {
				b.send(x.Port, x.Addr, packet)
			}
		}
		for _, port := range mixed(&s, rightPorts) {
			var want []api.Act
			for _, a := range eight {
				want = append(want, lost(port, a, "p"), lost(port, a, "q"), lost(port, a, "r"))
			}
			expect(t, b.drop(port), want...)
			b.same()
		}
		b.ticks(5)
	}
}

// A neighbour of each state, alone at its port.
func TestDropEachState(t *testing.T) {
	for state := api.NeighNone; state <= api.NeighProbe; state++ {
		b := newPair(t)
		b.become(4, six, state, 5)
		if state == api.NeighAsked {
			expect(t, b.drop(4), lost(4, six, "w"))
		} else {
			expect(t, b.drop(4))
		}
		b.is(4, six, 0, 0)
		b.same()
		b.ticks(40)
		b.become(4, six, api.NeighProbe, 6) // as one that was never known
		b.end()
	}
}

// What is no port, or has no neighbours, has nothing to drop.
func TestDropNone(t *testing.T) {
	for _, b := range fewAndMany(t) {
		for _, port := range wrongPorts {
			expect(t, b.drop(port))
		}
		b.same()
		b.end()
	}
	b := newPair(t)
	b.allStates(3, four)
	for _, port := range rightPorts {
		if port != 3 {
			expect(t, b.drop(port))
			b.same()
		}
	}
	b.end()
}
