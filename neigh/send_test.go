package neigh_test

import (
	"strconv"
	"strings"
	"testing"

	"crossway/api"
)

// number is the name of the packet n.
func number(n int) string { return "p" + strconv.Itoa(n) }

// Of the packets to one that is Asked the last three wait, and each other one is lost as
// soon as a further one comes; nobody asks again.
func TestSendAsked(t *testing.T) {
	for _, a := range rightAddrs {
		for count := 1; count <= 9; count++ {
			b := newPair(t)
			expect(t, b.send(4, a, number(0)), asked(4, a, 0))
			for n := 1; n < count; n++ {
				if n < 3 {
					expect(t, b.send(4, a, number(n)))
				} else {
					expect(t, b.send(4, a, number(n)), lost(4, a, number(n-3)))
				}
				b.is(4, a, 1, 0)
			}
			var want []api.Act
			for n := max(0, count-3); n < count; n++ {
				want = append(want, sent(4, a, 9, number(n)))
			}
			expect(t, b.tell(4, a, 9, true, false), want...)
			b.is(4, a, 2, 9)
			b.end()
		}
	}
}

// Packets that come later do not change when one that is Asked is asked, nor for how long.
func TestSendAskedLater(t *testing.T) {
	for ahead := range 4 { // of the first, the second and the third tick: how many packets
		for second := range 5 {
			for third := range 5 {
				b, n := newPair(t), 0
				sends := func(count int) {
					for range count {
						b.send(1, four, number(n))
						n++
					}
				}
				sends(1 + ahead)
				expect(t, b.tick(), asked(1, four, 0))
				sends(second)
				expect(t, b.tick(), asked(1, four, 0))
				sends(third)
				var want []api.Act
				for i := max(0, n-3); i < n; i++ {
					want = append(want, failed(1, four, number(i)))
				}
				expect(t, b.tick(), want...)
				b.is(1, four, 0, 0)
				b.end()
			}
		}
	}
}

// To one that has a mac a packet goes at once, whatever its state is.
func TestSendKnown(t *testing.T) {
	next := map[int]int{2: 2, 3: 4, 4: 4, 5: 5}
	for state, then := range next {
		for _, mac := range rightMacs {
			b := newPair(t)
			b.become(7, six, state, mac)
			for n := range 9 {
				expect(t, b.send(7, six, number(n)), sent(7, six, mac, number(n)))
				b.is(7, six, then, mac)
			}
			b.same()
			b.end()
		}
	}
}

// Packets do not prolong the ticks of one that is Reach, or Delay, nor the requests of one
// that is Probe.
func TestSendDoesNotProlong(t *testing.T) {
	b := newPair(t)
	b.become(1, four, api.NeighReach, 5)
	for range 29 {
		expect(t, b.send(1, four, "r"), sent(1, four, 5, "r"))
		b.ticks(1)
		b.is(1, four, 2, 5)
	}
	expect(t, b.send(1, four, "r"), sent(1, four, 5, "r"))
	b.ticks(1)
	b.is(1, four, 3, 5)
	b.ticks(60)
	for range 4 {
		expect(t, b.send(1, four, "s"), sent(1, four, 5, "s"))
		b.is(1, four, 4, 5)
		b.ticks(1)
	}
	for range 3 {
		expect(t, b.send(1, four, "d"), sent(1, four, 5, "d"))
		expect(t, b.tick(), asked(1, four, 5))
		b.is(1, four, 5, 5)
	}
	expect(t, b.send(1, four, "p"), sent(1, four, 5, "p"))
	expect(t, b.tick())
	b.is(1, four, 0, 0)
	expect(t, b.send(1, four, "n"), asked(1, four, 0))
}

// Delay begins anew for one that has become Stale anew.
func TestSendStaleAnew(t *testing.T) {
	for passed := range 8 {
		b := newPair(t)
		b.become(2, six, api.NeighDelay, 5)
		for range passed {
			b.tick()
		}
		b.learn(2, six, 6)
		b.is(2, six, 3, 6)
		expect(t, b.send(2, six, "p"), sent(2, six, 6, "p"))
		b.delayed(2, six, 6, 5)
	}
}

// The neighbours 63 and 64 are asked for, and a packet to another one is lost, till there
// is room.
func TestSendFull(t *testing.T) {
	to := func(i int) (int, api.Addr) { return 1 + i%8, api.Addr{Six: i%3 == 0, Lo: uint64(10<<24 + i/4)} }
	b := newPair(t)
	for i := range 64 {
		port, a := to(i)
		expect(t, b.send(port, a, number(i)), asked(port, a, 0))
		b.same()
	}
	for i := 64; i < 80; i++ {
		port, a := to(i)
		expect(t, b.send(port, a, number(i)), lost(port, a, number(i)))
		b.is(port, a, 0, 0)
	}
	b.same()
	for i := range 64 { // those that are there have room for packets
		port, a := to(i)
		expect(t, b.send(port, a, "2"))
		expect(t, b.send(port, a, "3"))
		expect(t, b.send(port, a, "4"), lost(port, a, number(i)))
	}
	if l := b.tick(); len(l) != 64 {
		t.Fatalf("X5: %s", show(l))
	}
	port, a := to(64)
	b.drop(3)
	expect(t, b.send(port, a, "5"), asked(port, a, 0))
	b.same()
	b.end()
}

// Room comes with each way in which a neighbour is removed, and with no other thing.
func TestSendAsRoomComes(t *testing.T) {
	b := newPair(t)
	b.fill(63)
	other, another := at("11.0.0.1"), at("2001:db8::1")
	expect(t, b.send(8, other, "a"), asked(8, other, 0))
	for range 2 {
		expect(t, b.send(1, another, "x"), lost(1, another, "x"))
		expect(t, b.tick(), asked(8, other, 0))
	}
	expect(t, b.send(1, another, "x"), lost(1, another, "x"))
	expect(t, b.tick(), failed(8, other, "a"))
	expect(t, b.send(1, another, "y"), asked(1, another, 0)) // Asked has ended
	expect(t, b.tell(1, another, 5, false, false), sent(1, another, 5, "y"))
	b.ticks(4)
	for range 3 {
		expect(t, b.tick(), asked(1, another, 5))
		expect(t, b.send(8, other, "z"), lost(8, other, "z"))
	}
	b.ticks(1)
	expect(t, b.send(8, other, "b"), asked(8, other, 0)) // Probe has ended
	b.same()
	b.end()
}

// Any bytes are a packet, none, many, and those that are no text; the same ones twice are two.
func TestSendAnyPacket(t *testing.T) {
	packets := []string{"", "", "a", "a", "\x00", "\xff\xfe\x00\x80", "é", "", strings.Repeat("long", 50000), "a", "a", "a"}
	for _, first := range packets {
		for _, second := range packets {
			b := newPair(t)
			expect(t, b.send(1, four, first), asked(1, four, 0))
			expect(t, b.send(1, four, second))
			expect(t, b.send(1, four, ""))
			expect(t, b.send(1, four, "a"), lost(1, four, first))
			expect(t, b.send(2, four, first), asked(2, four, 0))
			expect(t, b.drop(2), lost(2, four, first))
			b.tick()
			b.tick()
			expect(t, b.tick(), failed(1, four, second), failed(1, four, ""), failed(1, four, "a"))
			b.become(1, four, api.NeighProbe, 5)
			expect(t, b.send(1, four, second), sent(1, four, 5, second))
			expect(t, b.send(1, four, second), sent(1, four, 5, second))
		}
	}
}
