package arena_test

import (
	"slices"
	"testing"

	"crossway/api"
)

// TestGiveNoBlock has positions at which no taken block begins: outside the arena,
// within a taken block, of a free block, and of one that was given back.
func TestGiveNoBlock(t *testing.T) {
	a, p := made(t, 4)
	for _, order := range []int{2, 0, 1, 2} {
		a.Take(order)
		p.take(order)
	}
	// The blocks 0 to 3, 4, 6 and 7, 8 to 11 are taken.
	for _, at := range slices.Concat(farPlaces, []int{1, 2, 3, 5, 7, 9, 10, 11, 12, 13, 14, 15, 16, 17, 32}) {
		expectGive(t, a, at, api.ErrArenaNone)
		expectAs(t, a, p)
	}
	expectGive(t, a, 6, api.OK)
	p.give(6)
	for _, at := range []int{5, 6, 7} {
		expectGive(t, a, at, api.ErrArenaNone)
		expectAs(t, a, p)
	}
	// A greater block was merged of both: no taken one begins where they began.
	expectGive(t, a, 4, api.OK)
	p.give(4)
	for _, at := range []int{4, 5, 6, 7} {
		expectGive(t, a, at, api.ErrArenaNone)
		expectAs(t, a, p)
	}
	// The same beginning, with another order.
	expectTake(t, a, 2, 4)
	p.take(2)
	expectAs(t, a, p)
	expectGive(t, a, 6, api.ErrArenaNone)
	expectGive(t, a, 4, api.OK)
}

// TestGiveNothing has arenas without a taken block.
func TestGiveNothing(t *testing.T) {
	for order := range 17 {
		a := alone(t, order)
		for _, at := range slices.Concat(farPlaces, []int{0, 1, 1<<order - 1, 1 << order, 1 << (order / 2)}) {
			expectGive(t, a, at, api.ErrArenaNone)
		}
		expectSaid(t, a, 1<<order, order)
		expectTake(t, a, order, 0)
		expectGive(t, a, 0, api.OK)
		expectGive(t, a, 0, api.ErrArenaNone)
		expectSaid(t, a, 1<<order, order)
	}
}

// TestGiveMerges has a merging of none, some and all orders.
func TestGiveMerges(t *testing.T) {
	for order := range 17 {
		for k := range order + 1 {
			for stop := k; stop < order; stop++ {
				a := alone(t, order)
				expectTake(t, a, k, 0)
				// The buddy at one order is taken: merging ends there.
				for n := k; n < stop; n++ {
					expectTake(t, a, n, 1<<n)
				}
				expectTake(t, a, stop, 1<<stop)
				for n := k; n < stop; n++ {
					expectGive(t, a, 1<<n, api.OK)
				}
				expectGive(t, a, 0, api.OK)
				free := 1<<order - 1<<stop
				if stop == order-1 {
					expectSaid(t, a, free, stop, 1<<stop)
				} else {
					expectSaid(t, a, free, order-1, 1<<stop)
					expectTake(t, a, stop, 0)
					expectGive(t, a, 0, api.OK)
				}
				expectGive(t, a, 1<<stop, api.OK)
				expectSaid(t, a, 1<<order, order)
			}
			// From the order k on, through all.
			b := alone(t, order)
			expectTake(t, b, k, 0)
			expectGive(t, b, 0, api.OK)
			expectSaid(t, b, 1<<order, order)
			expectTake(t, b, order, 0)
		}
	}
}

// TestGiveBesideHalfABuddy has a buddy that is free only in part, so that it is not a
// free block of the same order.
func TestGiveBesideHalfABuddy(t *testing.T) {
	for half := range 2 {
		a := alone(t, 2)
		expectTake(t, a, 1, 0)
		expectTake(t, a, 0, 2)
		expectTake(t, a, 0, 3)
		expectGive(t, a, 2+half, api.OK)
		expectGive(t, a, 0, api.OK)
		expectSaid(t, a, 3, 1, 3-half)
		expectNoTake(t, a, 2, api.ErrArenaFull)
		// Nor do 0 and 1 and the free half of their buddy make one block.
		expectTake(t, a, 0, 2+half)
		expectTake(t, a, 1, 0)
		expectNoTake(t, a, 0, api.ErrArenaFull)
	}
	// A free block next to it, of another order, is no buddy.
	b := alone(t, 3)
	expectTake(t, b, 0, 0)
	expectTake(t, b, 0, 1)
	expectTake(t, b, 1, 2)
	expectGive(t, b, 1, api.OK)
	expectGive(t, b, 2, api.OK)
	expectSaid(t, b, 7, 2, 0)
	expectTake(t, b, 1, 2)
	expectTake(t, b, 0, 1)
}

// TestGiveBesideNoBuddy has two free blocks of one order, side by side, that are halves
// of two blocks.
func TestGiveBesideNoBuddy(t *testing.T) {
	for order := 2; order < 17; order++ {
		k := order - 2
		a := alone(t, order)
		for n := range 4 {
			expectTake(t, a, k, n<<k)
		}
		expectGive(t, a, 1<<k, api.OK)
		expectGive(t, a, 2<<k, api.OK)
		expectSaid(t, a, 2<<k, k, 0, 3<<k)
		expectNoTake(t, a, k+1, api.ErrArenaFull)
		expectGive(t, a, 3<<k, api.OK)
		expectSaid(t, a, 3<<k, k+1, 0)
		expectTake(t, a, k+1, 2<<k)
	}
}
