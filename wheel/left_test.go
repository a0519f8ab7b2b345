package wheel_test

import (
	"slices"
	"testing"

	"crossway/api"
)

// A timer alone: how long it waits yet, at every tick of its time.
func TestLeftAlone(t *testing.T) {
	for _, begin := range begins {
		for _, after := range []int{1, 15, 16, 17, 100, 255, 256, 257, 1000, 4095} {
			w := madeAt(t, begin)
			expectAdd(t, w, 6, after, api.OK)
			for left := after; left > 0; left-- {
				expectSays(t, w, begin+after-left, 1, left)
				expectLeft(t, w, 6, left, true)
				expectLeft(t, w, 5, 0, false)
				if left > 1 {
					expectTick(t, w)
				}
			}
			expectTick(t, w, 6)
			expectSays(t, w, begin+after, 0, 0)
			expectLeft(t, w, 6, 0, false)
		}
	}
}

// Timers on one level alone, on two and on all three.
func TestLeftLevels(t *testing.T) {
	lists := [][]int{
		{3, 9, 15}, {15, 1, 14}, {16, 40, 255}, {255, 254, 17}, {256, 700, 4095}, {4095, 3000, 512},
		{5, 60}, {60, 5}, {15, 16}, {9, 900}, {15, 256}, {255, 256}, {240, 256, 272}, {4095, 255, 15, 1}, {1, 15, 255, 4095}, {16, 256, 4080}, {2, 2, 30, 30, 500, 500},
	}
	for _, begin := range []int{0, 5, 15, 16, 250, 255, 256, 4094, 4096} {
		for _, afters := range lists {
			w, p := madeAt(t, begin), &plain{now: begin}
			for id, after := range afters {
				addBoth(t, w, p, id, after)
			}
			for len(p.in) > 0 {
				expectSays(t, w, p.now, len(p.in), p.next())
				for id := range afters {
					n, ok := p.left(id)
					expectLeft(t, w, id, n, ok)
				}
				tickBoth(t, w, p)
			}
			expectSays(t, w, p.now, 0, 0)
		}
	}
}

// A timer that was added long ago, on a level above, may be due ahead of one that is on a level below.
func TestNextAboveBelow(t *testing.T) {
	w := made(t)
	expectAdd(t, w, 1, 16, api.OK)
	expectTicks(t, w, 10)
	expectAdd(t, w, 2, 15, api.OK)
	expectSays(t, w, 10, 2, 6)
	expectTicks(t, w, 5)
	expectTick(t, w, 1)
	expectSays(t, w, 16, 1, 9)

	w = made(t)
	expectAdd(t, w, 1, 256, api.OK)
	expectTicks(t, w, 250)
	expectAdd(t, w, 2, 100, api.OK)
	expectAdd(t, w, 3, 9, api.OK)
	expectSays(t, w, 250, 3, 6)
	expectCancel(t, w, 1, true)
	expectSays(t, w, 250, 2, 9)
	expectCancel(t, w, 3, true)
	expectSays(t, w, 250, 1, 100)
}

// Within one slot of a level above, the first may be any.
func TestNextInSlot(t *testing.T) {
	for _, afters := range [][]int{{47, 32, 40}, {32, 47, 33}, {40, 33, 47}, {511, 256, 300}, {300, 511, 299}, {257, 300, 511}} {
		w := made(t)
		for id, after := range afters {
			expectAdd(t, w, id, after, api.OK)
		}
		expectSays(t, w, 0, 3, slices.Min(afters))
	}
}

// Next behind a Cancel of the one that would have been next, until none is left.
func TestNextBehindCancel(t *testing.T) {
	for _, begin := range begins {
		w := madeAt(t, begin)
		for i, after := range edgeAfters {
			expectAdd(t, w, i, after, api.OK)
		}
		for i, after := range edgeAfters {
			expectSays(t, w, begin, len(edgeAfters)-i, after)
			expectCancel(t, w, i, true)
			expectLeft(t, w, i, 0, false)
		}
		expectSays(t, w, begin, 0, 0)
		expectTicks(t, w, 4200)
	}
}

// Next behind a Cancel from the far end: the near ones stay.
func TestNextBehindCancelOfLast(t *testing.T) {
	for _, begin := range begins {
		w := madeAt(t, begin)
		for i, after := range edgeAfters {
			expectAdd(t, w, i, after, api.OK)
		}
		for i := len(edgeAfters) - 1; i >= 0; i-- {
			expectSays(t, w, begin, i+1, edgeAfters[0])
			expectCancel(t, w, i, true)
		}
		expectSays(t, w, begin, 0, 0)
	}
}

func TestLen(t *testing.T) {
	w := madeAt(t, 3)
	for id := range 1000 {
		expectSays(t, w, 3, id, min(id, 1))
		expectAdd(t, w, id, 1+id%3, api.OK)
	}
	expectSays(t, w, 3, 1000, 1)
	for i, n := range []int{334, 333, 333} {
		if l := w.Tick(); len(l) != n || w.Len() != 1000-[]int{334, 667, 1000}[i] {
			t.Fatalf("V4: %d come, and Len is %d", len(l), w.Len())
		}
	}
}
