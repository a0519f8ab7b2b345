package neigh_test

import (
	"testing"

	"crossway/api"
)

// Who is heard for the first time is Stale, and stays so.
func TestLearnNew(t *testing.T) {
	for _, a := range rightAddrs {
		for _, mac := range rightMacs {
			b := newPair(t)
			expect(t, b.learn(5, a, mac))
			b.is(5, a, 3, mac)
			b.ticks(70)
			b.is(5, a, 3, mac)
			b.same()
		}
	}
}

// The neighbours 63 and 64 are known when they are heard, and another one is not, till
// there is room.
func TestLearnFull(t *testing.T) {
	b := newPair(t)
	b.fill(63)
	expect(t, b.learn(1, four, 5))
	b.is(1, four, 3, 5)
	b.same()
	for range 3 {
		expect(t, b.learn(1, six, 6))
		expect(t, b.learn(2, four, 6))
		b.is(1, six, 0, 0)
		b.is(2, four, 0, 0)
	}
	expect(t, b.learn(1, four, 7)) // those that are there change
	b.is(1, four, 3, 7)
	b.same()
	expect(t, b.drop(4))
	expect(t, b.learn(1, six, 6))
	b.is(1, six, 3, 6)
	b.end()
}

// With 64 neighbours, one of which is Asked, that one is known when it is heard.
func TestLearnAskedFull(t *testing.T) {
	b := newPair(t)
	b.fill(63)
	b.send(2, six, "a")
	expect(t, b.learn(3, six, 5))
	b.is(3, six, 0, 0)
	expect(t, b.learn(2, six, 5), sent(2, six, 5, "a"))
	b.is(2, six, 4, 5)
	b.same()
	b.end()
}

// waits lets so many packets come for one that is not known, and returns those that wait.
func (b pair) waits(port int, a api.Addr, count int) (l []string) {
	for n := range count {
		b.send(port, a, number(n))
		l = append(l, number(n))
	}
	return l[max(0, count-3):]
}

// sends are the actions by which packets go.
func sends(port int, a api.Addr, mac api.Mac, packets []string) (l []api.Act) {
	for _, p := range packets {
		l = append(l, sent(port, a, mac, p))
	}
	return l
}

// delayed expects that a neighbour is Delay with so many ticks left, and what follows.
func (b pair) delayed(port int, a api.Addr, mac api.Mac, left int) {
	b.t.Helper()
	b.is(port, a, 4, mac)
	for range left - 1 {
		b.ticks(1)
		b.is(port, a, 4, mac)
	}
	for range 3 {
		expect(b.t, b.tick(), asked(port, a, mac))
		b.is(port, a, 5, mac)
	}
	b.ticks(1)
	b.is(port, a, 0, 0)
}

// Who is Asked becomes Stale, and by the packets that go then Delay at once, with all ticks,
// after how many requests and with how many packets whatever.
func TestLearnAsked(t *testing.T) {
	for count := 1; count <= 6; count++ {
		for requests := range 3 {
			for _, mac := range rightMacs {
				b := newPair(t)
				packets := b.waits(2, six, count)
				for range requests {
					expect(t, b.tick(), asked(2, six, 0))
				}
				expect(t, b.learn(2, six, mac), sends(2, six, mac, packets)...)
				expect(t, b.learn(2, six, mac)) // they do not go twice
				b.same()
				b.delayed(2, six, mac, 5)
				b.end()
			}
		}
	}
}

// The same mac changes nothing, nor how many ticks or requests are left.
func TestLearnSame(t *testing.T) {
	b := newPair(t)
	b.become(1, four, api.NeighReach, 5)
	for range 29 {
		expect(t, b.learn(1, four, 5))
		b.ticks(1)
		b.is(1, four, 2, 5)
	}
	expect(t, b.learn(1, four, 5))
	b.ticks(1)
	b.is(1, four, 3, 5)
	for range 50 {
		expect(t, b.learn(1, four, 5))
		b.is(1, four, 3, 5)
		b.ticks(1)
	}
	b.send(1, four, "d")
	for n := range 8 {
		expect(t, b.learn(1, four, 5))
		b.is(1, four, 4+n/5, 5)
		b.tick()
	}
	b.is(1, four, 0, 0)
	b.end()
}

// Another mac makes one of each state Stale, at each of its ticks, and nothing goes or is asked.
func TestLearnOther(t *testing.T) {
	for state := api.NeighReach; state <= api.NeighProbe; state++ {
		for passed := range 33 {
			b := newPair(t)
			b.become(6, four, state, 5)
			for range passed {
				b.tick()
			}
			before, _ := b.p.State(6, four)
			expect(t, b.learn(6, four, 1<<48-1))
			b.is(6, four, 3, 1<<48-1)
			b.ticks(35)
			b.is(6, four, 3, 1<<48-1)
			expect(t, b.send(6, four, "p"), sent(6, four, 1<<48-1, "p"))
			b.delayed(6, four, 1<<48-1, 5)
			if before == 0 { // it was gone already, and was new
				break
			}
		}
	}
}

// Who is heard is not heard at another port, or as another one.
func TestLearnOne(t *testing.T) {
	b := newPair(t)
	b.allStates(1, four)
	b.allStates(2, four)
	b.allStates(1, six)
	for _, x := range b.p.Known() {
		if x.Port == 1 && !x.Addr.Six {
			b.learn(x.Port, x.Addr, 99)
			b.same()
		}
	}
	for i, x := range b.c.Known() {
		if want := api.Mac(99); (x.Mac == want) != (x.Port == 1 && !x.Addr.Six) {
			t.Errorf("X3: the neighbour %d is %v", i, x)
		}
	}
	b.end()
}
