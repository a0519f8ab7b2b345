package neigh_test

import (
	"testing"

	"crossway/api"
)

// Who is not known is not known by what is told, also where there is no room.
func TestTellNone(t *testing.T) {
	for _, count := range []int{0, 1, 63, 64} {
		b := newPair(t)
		b.fill(count)
		for _, a := range rightAddrs {
			for _, answer := range bools {
				for _, over := range bools {
					expect(t, b.tell(3, a, 5, answer, over))
					b.is(3, a, 0, 0)
				}
			}
		}
		b.same()
		expect(t, b.tick())
	}
}

// Who is Asked becomes Reach by an answer, and else Stale, which is Delay at once by the
// packets that go; over has no effect.
func TestTellAsked(t *testing.T) {
	for count := 1; count <= 6; count++ {
		for requests := range 3 {
			for _, over := range bools {
				for _, mac := range rightMacs {
					b := newPair(t)
					packets := b.waits(2, four, count)
					for range requests {
						expect(t, b.tick(), asked(2, four, 0))
					}
					expect(t, b.tell(2, four, mac, true, over), sends(2, four, mac, packets)...)
					b.reached(2, four, mac)

					b = newPair(t)
					packets = b.waits(2, four, count)
					for range requests {
						b.tick()
					}
					expect(t, b.tell(2, four, mac, false, over), sends(2, four, mac, packets)...)
					b.same()
					b.delayed(2, four, mac, 5)
				}
			}
		}
	}
}

// reached expects that a neighbour is Reach with all its ticks left, and what follows.
func (b pair) reached(port int, a api.Addr, mac api.Mac) {
	b.t.Helper()
	for range 30 {
		b.is(port, a, 2, mac)
		b.ticks(1)
	}
	b.is(port, a, 3, mac)
	b.ticks(40)
	b.is(port, a, 3, mac)
}

// told is what becomes of one that has the mac 5.
type told struct {
	state        int
	mac          api.Mac // what is told
	answer, over bool
	then         int
	is           api.Mac
}

// TestTellKnown: each state that has a mac, with each mac, answer and over.
func TestTellKnown(t *testing.T) {
	for _, x := range []told{
		{2, 5, false, false, 2, 5}, {2, 5, false, true, 2, 5}, {2, 5, true, false, 2, 5}, {2, 5, true, true, 2, 5},
		{3, 5, false, false, 3, 5}, {3, 5, false, true, 3, 5}, {3, 5, true, false, 2, 5}, {3, 5, true, true, 2, 5},
		{4, 5, false, false, 4, 5}, {4, 5, false, true, 4, 5}, {4, 5, true, false, 2, 5}, {4, 5, true, true, 2, 5},
		{5, 5, false, false, 5, 5}, {5, 5, false, true, 5, 5}, {5, 5, true, false, 2, 5}, {5, 5, true, true, 2, 5},
		{2, 6, false, false, 3, 5}, {2, 6, false, true, 3, 6}, {2, 6, true, false, 3, 5}, {2, 6, true, true, 2, 6},
		{3, 6, false, false, 3, 5}, {3, 6, false, true, 3, 6}, {3, 6, true, false, 3, 5}, {3, 6, true, true, 2, 6},
		{4, 6, false, false, 4, 5}, {4, 6, false, true, 3, 6}, {4, 6, true, false, 4, 5}, {4, 6, true, true, 2, 6},
		{5, 6, false, false, 5, 5}, {5, 6, false, true, 3, 6}, {5, 6, true, false, 5, 5}, {5, 6, true, true, 2, 6},
	} {
		for _, a := range rightAddrs {
			b := newPair(t)
			b.become(8, a, x.state, 5)
			expect(t, b.tell(8, a, x.mac, x.answer, x.over))
			b.is(8, a, x.then, x.is)
			b.same()
			if x.then == api.NeighReach && x.answer {
				b.reached(8, a, x.is)
			}
			b.end()
		}
	}
}

// What is told at each tick: an answer gives all ticks anew, and what has no effect leaves
// the ticks and requests as they were.
func TestTellAtEachTick(t *testing.T) {
	for state := api.NeighReach; state <= api.NeighProbe; state++ {
		for passed := range 33 {
			for _, mac := range []api.Mac{5, 6} {
				for _, answer := range bools {
					for _, over := range bools {
						b := newPair(t)
						b.become(1, six, state, 5)
						for range passed {
							b.tick()
						}
						before, was := b.c.State(1, six)
						expect(t, b.tell(1, six, mac, answer, over))
						switch {
						case before == 0:
							b.is(1, six, 0, 0)
						case answer && (mac == was || over):
							b.reached(1, six, mac)
						case mac == was || !over && before != 2:
							b.is(1, six, before, was)
						}
						b.end()
					}
				}
			}
		}
	}
}

// A Reach that is doubted is Stale, keeps its mac, and is asked when something is sent to it.
func TestTellDoubt(t *testing.T) {
	for _, answer := range bools {
		for passed := range 30 {
			b := newPair(t)
			b.become(1, four, api.NeighReach, 5)
			b.ticks(passed)
			for _, mac := range []api.Mac{6, 7, 1 << 40, 6} {
				expect(t, b.tell(1, four, mac, answer, false))
				b.is(1, four, 3, 5)
			}
			b.ticks(40)
			b.is(1, four, 3, 5)
			expect(t, b.send(1, four, "p"), sent(1, four, 5, "p"))
			expect(t, b.tell(1, four, 6, answer, false))
			b.delayed(1, four, 5, 5)
		}
	}
}

// Each number of ticks is that of the last answer.
func TestTellAgain(t *testing.T) {
	b := newPair(t)
	b.become(1, four, api.NeighReach, 5)
	for passed := range 30 {
		b.ticks(passed)
		b.is(1, four, 2, 5)
		expect(t, b.tell(1, four, 5, true, passed%2 == 0))
	}
	for passed := range 30 {
		b.ticks(passed)
		expect(t, b.tell(1, four, 5, false, passed%2 == 0))
		if passed == 8 { // 36 ticks have passed by then
			b.is(1, four, 3, 5)
			break
		}
		if passed == 7 {
			b.is(1, four, 2, 5)
		}
	}
	b.end()
}

// What is told of one is not told of others.
func TestTellOne(t *testing.T) {
	b := newPair(t)
	b.allStates(1, four)
	b.allStates(2, four)
	b.allStates(1, six)
	for _, x := range b.p.Known() {
		if x.Port == 2 {
			b.tell(x.Port, x.Addr, 99, true, true)
			b.same()
		}
	}
	for i, x := range b.c.Known() {
		if (x.Mac == 99) != (x.Port == 2) || x.Port == 2 && x.State != 2 {
			t.Errorf("X4: the neighbour %d is %v", i, x)
		}
	}
	b.end()
}
