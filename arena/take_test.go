package arena_test

import (
	"slices"
	"testing"

	"crossway/api"
	"crossway/arena"
)

// TestTakeOddOrders has orders below 0, and above that of the arena, when it is free,
// partly free and full: the order counts ahead of the want of room.
func TestTakeOddOrders(t *testing.T) {
	for order := range 17 {
		a := alone(t, order)
		for stage := range 3 {
			x, taken := saidBy(a), a.Taken()
			for _, odd := range append(slices.Clone(oddOrders), order+1, order+2) {
				expectNoTake(t, a, odd, api.ErrArg)
			}
			expectSaid(t, a, x.free, x.greatest, taken...)
			switch {
			case stage == 0 && order > 0:
				expectTake(t, a, order-1, 0)
			case stage == 1 && order > 0:
				expectTake(t, a, order-1, 1<<(order-1))
			case stage == 0:
				expectTake(t, a, 0, 0)
			}
		}
	}
}

// TestTakeSplits has a block that is split once, and many times: each second half that
// stays is free.
func TestTakeSplits(t *testing.T) {
	for order := range 17 {
		for k := range order + 1 {
			a := alone(t, order)
			expectTake(t, a, k, 0)
			if a.Order(0) != k {
				t.Errorf("K4: Order(0) is %d, not %d", a.Order(0), k)
			}
			if k == order {
				expectSaid(t, a, 0, -1, 0)
				continue
			}
			expectSaid(t, a, 1<<order-1<<k, order-1, 0)
			// Each order from k on has one second half, which begins at its own size.
			for n := k; n < order; n++ {
				expectTake(t, a, n, 1<<n)
			}
			expectNoTake(t, a, 0, api.ErrArenaFull)
		}
	}
}

// filled is an arena all of whose cells are taken, each as a block.
func filled(t *testing.T, order int) *arena.Arena {
	t.Helper()
	a := alone(t, order)
	for at := range 1 << order {
		expectTake(t, a, 0, at)
	}
	expectSaidBriefly(t, a, 0, -1)
	return a
}

// expectSaidBriefly does not go through the taken blocks.
func expectSaidBriefly(t *testing.T, a *arena.Arena, free, greatest int) {
	t.Helper()
	if x := saidBy(a); x.free != free || x.greatest != greatest {
		t.Errorf("K4: Free is %d and Greatest %d, not %d and %d", x.free, x.greatest, free, greatest)
	}
}

// TestTakeLeastOrder has a later block of a less order ahead of an earlier one of a
// greater one.
func TestTakeLeastOrder(t *testing.T) {
	a := alone(t, 3)
	expectTake(t, a, 2, 0)
	expectTake(t, a, 0, 4)
	expectGive(t, a, 0, api.OK)
	// Free are 0 to 3, 5, and 6 and 7.
	expectTake(t, a, 0, 5)
	expectTake(t, a, 1, 6)
	expectTake(t, a, 0, 0)
	expectSaid(t, a, 3, 1, 0, 4, 5, 6)

	// Of 0 to 3, and 6 and 7, a single cell is taken from the lesser block.
	b := alone(t, 3)
	expectTake(t, b, 2, 0)
	expectTake(t, b, 1, 4)
	expectGive(t, b, 0, api.OK)
	expectTake(t, b, 0, 6)
	expectTake(t, b, 0, 7)
	expectTake(t, b, 0, 0)
}

// TestTakeFirstBlock has several free blocks of the least order that serves.
func TestTakeFirstBlock(t *testing.T) {
	s := source(1)
	for order := 2; order < 9; order++ {
		for k := range order - 1 {
			a := alone(t, order)
			for at := 0; at < 1<<order; at += 1 << k {
				expectTake(t, a, k, at)
			}
			// Every second block is given back: no two are buddies.
			var given []int
			for at := 0; at < 1<<order; at += 2 << k {
				given = append(given, at+s.below(2)<<k)
			}
			for _, at := range s.shuffled(given) {
				expectGive(t, a, at, api.OK)
			}
			expectSaidBriefly(t, a, 1<<(order-1), k)
			for _, at := range given {
				less := s.below(k + 1)
				expectTake(t, a, less, at)
				for n := less; n < k; n++ {
					expectTake(t, a, n, at+1<<n)
				}
			}
			expectNoTake(t, a, 0, api.ErrArenaFull)
		}
	}
}

// TestTakeFull has an arena that is full, and ones whose free cells suffice, but lie in
// no block that is great enough.
func TestTakeFull(t *testing.T) {
	for order := range 10 {
		a := filled(t, order)
		taken := a.Taken()
		for k := range order + 1 {
			expectNoTake(t, a, k, api.ErrArenaFull)
		}
		expectSaid(t, a, 0, -1, taken...)
		for at := 0; at < 1<<order && order > 0; at += 2 {
			expectGive(t, a, at, api.OK)
		}
		if order == 0 {
			continue
		}
		taken = a.Taken()
		for k := 1; k <= order; k++ {
			expectNoTake(t, a, k, api.ErrArenaFull)
		}
		expectSaid(t, a, 1<<(order-1), 0, taken...)
		expectTake(t, a, 0, 0)
	}
	// Two free cells that lie side by side, but are no buddies.
	b := filled(t, 2)
	expectGive(t, b, 1, api.OK)
	expectGive(t, b, 2, api.OK)
	expectNoTake(t, b, 1, api.ErrArenaFull)
	expectSaid(t, b, 2, 0, 0, 3)
	// All but one cell.
	for order := 1; order < 17; order++ {
		c := alone(t, order)
		expectTake(t, c, 0, 0)
		expectNoTake(t, c, order, api.ErrArenaFull)
		expectSaid(t, c, 1<<order-1, order-1, 0)
		expectTake(t, c, order-1, 1<<(order-1))
	}
}
