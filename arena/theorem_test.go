package arena_test

import (
	"slices"
	"testing"

	"crossway/api"
	"crossway/arena"
)

// call is one of a Take or a Give.
type call struct {
	gives bool
	n     int
}

// play makes an arena, and the same in the other way, by some calls.
func play(t *testing.T, order int, calls []call) (*arena.Arena, *plain) {
	t.Helper()
	a, p := made(t, order)
	for _, c := range calls {
		both(t, a, p, c)
	}
	return a, p
}

// both makes a call in both ways, and expects the same of it.
func both(t *testing.T, a *arena.Arena, p *plain, c call) {
	t.Helper()
	if c.gives {
		expectGive(t, a, c.n, p.give(c.n))
		return
	}
	at, e := a.Take(c.n)
	if want, wanted := p.take(c.n); at != want || e != wanted {
		t.Errorf("K2: Take(%d) is %d %d, not %d %d", c.n, at, e, want, wanted)
	}
}

// key is the taken blocks, in ascending order.
func key(p *plain) string {
	b := make([]byte, len(p.owner))
	for _, x := range p.taken {
		b[x.at] = byte(x.order + 1)
	}
	return string(b)
}

// states is how many sets of taken blocks an arena of an order can have: the whole one,
// or some of each half.
func states(order int) int {
	if order == 0 {
		return 2
	}
	n := states(order - 1)
	return 1 + n*n
}

// TestEveryState has each set of taken blocks that a small arena can have, and each call
// there, good ones and wrong ones, with what each next Take is.
func TestEveryState(t *testing.T) {
	for order := range 4 {
		var calls []call
		for k := -1; k <= order+1; k++ {
			calls = append(calls, call{false, k})
		}
		for at := -1; at <= 1<<order; at++ {
			calls = append(calls, call{true, at})
		}
		ways := [][]call{nil}
		seen := map[string]bool{key(newPlain(order)): true}
		for i := 0; i < len(ways); i++ {
			for _, c := range calls {
				way := append(slices.Clone(ways[i]), c)
				a, p := play(t, order, way)
				expectAs(t, a, p)
				for k := range order + 1 {
					b, q := play(t, order, way)
					both(t, b, q, call{false, k})
				}
				if s := key(p); !seen[s] {
					seen[s] = true
					ways = append(ways, way)
				}
			}
			if t.Failed() {
				t.Fatalf("the order %d, behind the calls %v", order, ways[i])
			}
		}
		if len(ways) != states(order) {
			t.Errorf("K5: an arena of the order %d has %d states, not %d", order, len(ways), states(order))
		}
	}
}

// anyCall is a call that looks like chance, often one that has an effect.
func (s *source) anyCall(p *plain) call {
	switch {
	case s.below(10) == 0:
		return call{s.below(2) == 0, s.below(1<<p.order+4) - 2}
	case len(p.taken) > 0 && s.below(2) == 0:
		return call{true, p.taken[s.below(len(p.taken))].at}
	}
	return call{false, s.below(p.order+1) * s.below(p.order+2) / (p.order + 1)}
}

func TestAnyCalls(t *testing.T) {
	s := source(2)
	for order := range 9 {
		for range 20 {
			a, p := made(t, order)
			for range 150 {
				both(t, a, p, s.anyCall(p))
				expectAs(t, a, p)
			}
			if t.Failed() {
				t.Fatalf("the order %d", order)
			}
		}
	}
}

// TestBlocksDoNotOverlap looks at what an arena says alone: its blocks begin at a
// multiple of their size, end within it, and share no cell.
func TestBlocksDoNotOverlap(t *testing.T) {
	s := source(3)
	for _, order := range []int{0, 1, 5, 10, 13, 16} {
		a := alone(t, order)
		var mine []int
		for range 3000 {
			if len(mine) > 0 && s.below(5) < 2 {
				i := s.below(len(mine))
				expectGive(t, a, mine[i], api.OK)
				mine = slices.Delete(mine, i, i+1)
			} else if at, e := a.Take(s.below(order+1) / (1 + s.below(3))); e == api.OK {
				mine = append(mine, at)
			} else if e != api.ErrArenaFull {
				t.Errorf("K2: %d", e)
			}
		}
		end, cells := 0, 0
		for _, at := range a.Taken() {
			k := a.Order(at)
			if k < 0 || at < end || at%(1<<k) != 0 {
				t.Fatalf("K5: a block of the order %d at %d, behind one that ends at %d", k, at, end)
			}
			end = at + 1<<k
			cells += 1 << k
		}
		if end > 1<<order || cells+a.Free() != 1<<order {
			t.Errorf("K5: the order %d: the last block ends at %d; %d cells are taken, %d free", order, end, cells, a.Free())
		}
		slices.Sort(mine)
		if !slices.Equal(a.Taken(), mine) {
			t.Errorf("K4: Taken is not what was taken: %d blocks, %d", len(a.Taken()), len(mine))
		}
	}
}

// reached takes all cells, and gives back those blocks that do not stay, in an order
// that looks like chance: the blocks that stay are taken in one of many ways.
func reached(t *testing.T, s *source, order, k int, stay func(at int) bool) (*arena.Arena, *plain) {
	t.Helper()
	a, p := made(t, order)
	var gone []int
	for at := 0; at < 1<<order; at += 1 << k {
		both(t, a, p, call{false, k})
		if !stay(at) {
			gone = append(gone, at)
		}
	}
	for range s.below(3) {
		// Some are given back and taken again ahead of that.
		for _, at := range s.shuffled(gone)[:len(gone)/2] {
			both(t, a, p, call{true, at})
		}
		for range len(gone) / 2 {
			both(t, a, p, call{false, k})
		}
	}
	for _, at := range s.shuffled(gone) {
		both(t, a, p, call{true, at})
	}
	return a, p
}

// TestFreeHangsOnTaken has the same taken blocks reached by calls in different order:
// all that follows is the same.
func TestFreeHangsOnTaken(t *testing.T) {
	s := source(4)
	for order := 1; order < 8; order++ {
		for k := range order {
			picks := s.next()
			stay := func(at int) bool { return picks>>(at>>k%61)&1 == 1 }
			a, p := reached(t, &s, order, k, stay)
			b, q := reached(t, &s, order, k, stay)
			expectAs(t, a, p)
			expectAs(t, b, q)
			for range 100 {
				c := s.anyCall(p)
				both(t, a, p, c)
				both(t, b, q, c)
				if saidBy(a) != saidBy(b) || !slices.Equal(a.Taken(), b.Taken()) {
					t.Errorf("K5: the arenas differ: %v %v, %v %v", saidBy(a), a.Taken(), saidBy(b), b.Taken())
				}
			}
			if t.Failed() {
				t.Fatalf("the orders %d and %d", order, k)
			}
		}
	}
}

// TestAllGivenBack has all blocks given back in any order: one free block is left.
func TestAllGivenBack(t *testing.T) {
	s := source(5)
	for _, order := range []int{0, 1, 2, 3, 7, 12, 16} {
		for way := range 3 {
			a := filled(t, order)
			places := a.Taken()
			switch way {
			case 1:
				slices.Reverse(places)
			case 2:
				places = s.shuffled(places)
			}
			for i, at := range places {
				expectGive(t, a, at, api.OK)
				if a.Free() != i+1 {
					t.Fatalf("K4: Free is %d, not %d", a.Free(), i+1)
				}
			}
			expectSaid(t, a, 1<<order, order)
			expectTake(t, a, order, 0)
		}
	}
	// Blocks of all orders.
	for order := range 17 {
		a := alone(t, order)
		var mine []int
		for {
			k := s.below(order + 1)
			if at, e := a.Take(k); e == api.OK {
				mine = append(mine, at)
			} else if k == 0 || s.below(8) == 0 {
				break
			}
		}
		for _, at := range s.shuffled(mine) {
			expectGive(t, a, at, api.OK)
		}
		expectSaid(t, a, 1<<order, order)
	}
}

// TestRefusedHasNoRoom has requests that are refused: at no position could the block
// be, and nothing has changed.
func TestRefusedHasNoRoom(t *testing.T) {
	s := source(6)
	refused := 0
	for range 300 {
		order := 1 + s.below(6)
		a, p := made(t, order)
		for range 100 {
			both(t, a, p, s.anyCall(p))
			k := s.below(order + 1)
			if slices.ContainsFunc(p.free(), func(b block) bool { return b.order >= k }) {
				continue
			}
			refused++
			expectNoTake(t, a, k, api.ErrArenaFull)
			expectAs(t, a, p)
			for at := 0; at < 1<<order; at += 1 << k {
				if p.idle(at, k) {
					t.Errorf("K5: Take(%d) was refused, and %d is free", k, at)
				}
			}
		}
	}
	if refused < 1000 {
		t.Errorf("only %d requests were refused", refused)
	}
}

// TestArenasAreIndependent uses several side by side.
func TestArenasAreIndependent(t *testing.T) {
	s := source(7)
	var as []*arena.Arena
	var ps []*plain
	for n := range 6 {
		a, p := made(t, 3+n%3)
		as, ps = append(as, a), append(ps, p)
	}
	for range 1000 {
		i := s.below(len(as))
		both(t, as[i], ps[i], s.anyCall(ps[i]))
		for j := range as {
			if saidBy(as[j]) != ps[j].said() || !slices.Equal(as[j].Taken(), ps[j].places()) {
				t.Fatalf("R4: a call for the arena %d changed the arena %d", i, j)
			}
		}
	}
	for j := range as {
		expectAs(t, as[j], ps[j])
	}
}

// TestNoCallPanics gives arenas of all orders numbers of all sizes.
func TestNoCallPanics(t *testing.T) {
	s := source(8)
	for order := range 17 {
		a := alone(t, order)
		for range 2000 {
			n := int(s.next()) >> s.below(64)
			a.Take(n)
			a.Give(n)
			a.Order(n)
			a.Free()
			a.Greatest()
		}
		for _, at := range a.Taken() {
			expectGive(t, a, at, api.OK)
		}
		expectSaid(t, a, 1<<order, order)
	}
}
