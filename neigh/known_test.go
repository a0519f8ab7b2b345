package neigh_test

import (
	"slices"
	"testing"

	"crossway/api"
)

// State and Known tell of each state, and to ask changes nothing.
func TestStateOfEach(t *testing.T) {
	for _, a := range rightAddrs {
		for state := api.NeighNone; state <= api.NeighProbe; state++ {
			b := newPair(t)
			b.become(2, a, state, 9)
			want := []api.Neigh{{Port: 2, Addr: a, State: state, Mac: 9}}
			switch state {
			case api.NeighNone:
				want = nil
			case api.NeighAsked:
				want[0].Mac = 0
			}
			for range 12 { // more often than there may be requests, or ticks of Delay
				if l := b.c.Known(); !slices.Equal(l, want) {
					t.Fatalf("X6: Known() is %v, and not %v", l, want)
				}
				for port := -1; port <= 10; port++ {
					for _, other := range slices.Concat(rightAddrs, wrongAddrs) {
						if port != 2 || other != a {
							b.is(port, other, 0, 0)
						}
					}
				}
			}
			b.end()
		}
	}
}

// Known is in the order of a Tick, whatever the order was in which they came, and went.
func TestKnownOrder(t *testing.T) {
	s := source(3)
	order := inOrder(eight)
	for i := range order {
		order[i].State, order[i].Mac = 3, api.Mac(1+i*37%64)
	}
	for range 60 {
		b := newPair(t)
		for _, x := range mixed(&s, order) {
			b.learn(x.Port, x.Addr, x.Mac)
		}
		if l := b.c.Known(); !slices.Equal(l, order) {
			t.Fatalf("X6: Known() is %v, and not %v", l, order)
		}
		gone := one(&s, rightPorts)
		b.drop(gone)
		left := slices.DeleteFunc(slices.Clone(order), func(x api.Neigh) bool { return x.Port == gone })
		if l := b.c.Known(); !slices.Equal(l, left) {
			t.Fatalf("X6: behind Drop(%d) Known() is %v, and not %v", gone, l, left)
		}
	}
}

// Known and State tell the same, of several ports and both families, at each tick.
func TestKnownIsState(t *testing.T) {
	b := newPair(t)
	for _, port := range []int{8, 3, 1} {
		b.allStates(port, six)
		b.allStates(port, four)
	}
	for range 40 {
		l := b.c.Known()
		for _, x := range l {
			b.is(x.Port, x.Addr, x.State, x.Mac)
			if x.State < 1 || x.State > 5 || (x.Mac == 0) != (x.State == 1) {
				t.Errorf("X6: %v is known", x)
			}
		}
		b.same()
		b.tick()
	}
}
