package wheel_test

import (
	"slices"
	"testing"

	"crossway/api"
	"crossway/wheel"
)

func TestNew(t *testing.T) {
	w := made(t)
	expectAs(t, w, &plain{})
	for id := -300; id <= 300; id++ {
		expectLeft(t, w, id, 0, false)
	}
	expectTick(t, w)
	expectAs(t, w, &plain{now: 1})
}

// Now counts each Tick, and nothing else.
func TestNow(t *testing.T) {
	w := made(t)
	for n := 1; n <= 20000; n++ {
		expectTick(t, w)
		expectSays(t, w, n, 0, 0)
	}
	expectAdd(t, w, 1, 5, api.OK)
	expectAdd(t, w, 1, 5, api.ErrWheelThere)
	expectAdd(t, w, 1, 0, api.ErrArg)
	expectCancel(t, w, 2, false)
	expectSays(t, w, 20000, 1, 5)
	expectTicks(t, w, 4)
	expectTick(t, w, 1)
	expectSays(t, w, 20005, 0, 0)
	for n := 20006; n <= 140000; n++ {
		if l := w.Tick(); len(l) != 0 || w.Now() != n {
			t.Fatalf("V1: Now is %d, not %d", w.Now(), n)
		}
	}
	expectAdd(t, w, 1, 4095, api.OK)
	expectTicks(t, w, 4094)
	expectTick(t, w, 1)
}

// step is a timer that is added at a time.
type step struct{ at, id, after int }

// run adds the timers of several steps at their times, and lets the time pass till nothing waits.
func run(t *testing.T, begin int, steps []step) {
	t.Helper()
	w, p := madeAt(t, begin), &plain{now: begin}
	for passed := 0; len(p.in) > 0 || len(steps) > 0; passed++ {
		for len(steps) > 0 && steps[0].at == passed {
			addBoth(t, w, p, steps[0].id, steps[0].after)
			steps = steps[1:]
		}
		tickBoth(t, w, p)
	}
	expectSays(t, w, p.now, 0, 0)
}

func TestTickOrder(t *testing.T) {
	lists := [][]int{{1, 2, 3, 4}, {4, 3, 2, 1}, {2, 4, 1, 3}, {3, 0, -5, 900}, {7}}
	for _, after := range edgeAfters {
		for _, ids := range lists {
			w := madeAt(t, 12)
			for _, id := range ids {
				expectAdd(t, w, id, after, api.OK)
			}
			expectTicks(t, w, after-1)
			expectTick(t, w, ids...)
			expectTick(t, w)
		}
	}
}

// Timers that are due in one tick come in the order in which they were added, whatever their afters and their levels were.
func TestTickTogether(t *testing.T) {
	for _, begin := range []int{0, 1, 9, 15, 16, 250, 255, 256, 4000, 4095} {
		run(t, begin, []step{{0, 5, 20}, {10, 3, 10}, {19, 4, 1}})
		run(t, begin, []step{{0, 9, 300}, {100, 2, 200}, {290, 7, 10}, {299, 1, 1}})
		run(t, begin, []step{{0, 3, 256}, {0, 2, 256}, {1, 1, 255}, {241, 9, 15}, {241, 8, 15}, {255, 0, 1}})
		run(t, begin, []step{{0, 3, 4095}, {0, 5, 4095}, {3800, 1, 295}, {3839, 2, 256}, {3840, 8, 255}, {4079, 6, 16}, {4080, 7, 15}, {4094, 4, 1}})
		run(t, begin, []step{{0, 1, 20}, {0, 2, 5}, {0, 3, 20}, {0, 4, 5}, {4, 5, 16}, {4, 6, 1}, {4, 7, 16}})
	}
}

// All of one time, each added at another one: the earliest ones were added first.
func TestTickOneTime(t *testing.T) {
	const due = 4095
	for _, begin := range []int{0, 3, 255, 256, 4090} {
		w := madeAt(t, begin)
		var want []int
		for passed := range due {
			if passed%5 == 0 || due-passed < 20 {
				id := passed * 37 % due
				expectAdd(t, w, id, due-passed, api.OK)
				want = append(want, id)
			}
			if passed < due-1 {
				expectTick(t, w)
			}
		}
		expectTick(t, w, want...)
		expectSays(t, w, begin+due, 0, 0)
	}
}

// What is cancelled and added anew comes behind those that were added in between.
func TestTickAnew(t *testing.T) {
	for _, after := range []int{1, 5, 15, 16, 40, 255, 256, 257, 1000} {
		for anew := range 4 {
			for _, passed := range []int{0, after / 3, after / 2, after - 1} {
				w, p := madeAt(t, 27), &plain{now: 27}
				for id := range 4 {
					addBoth(t, w, p, 40-id, after)
				}
				for range passed {
					tickBoth(t, w, p)
				}
				cancelBoth(t, w, p, 40-anew)
				addBoth(t, w, p, 50, after-passed)
				addBoth(t, w, p, 40-anew, after-passed)
				addBoth(t, w, p, 49, after-passed)
				for range after - passed {
					tickBoth(t, w, p)
				}
				expectSays(t, w, 27+after, 0, 0)
			}
		}
	}
}

// A refused Add gives no timer a later place.
func TestTickBehindRefusals(t *testing.T) {
	for _, after := range []int{4, 40, 400} {
		w := made(t)
		expectAdd(t, w, 2, after, api.OK)
		expectAdd(t, w, 1, after, api.OK)
		expectAdd(t, w, 2, after, api.ErrWheelThere)
		expectAdd(t, w, 2, 0, api.ErrArg)
		expectCancel(t, w, 3, false)
		expectTicks(t, w, after-1)
		expectTick(t, w, 2, 1)
	}
}

// came are the ticks at which a wheel gives anything back, of the next so many.
func came(w *wheel.Wheel, ticks int) (at []int) {
	for n := 1; n <= ticks; n++ {
		for range w.Tick() {
			at = append(at, n)
		}
	}
	return at
}

func TestTickAllLevels(t *testing.T) {
	for _, begin := range begins {
		w := madeAt(t, begin)
		for i, after := range edgeAfters {
			expectAdd(t, w, -i, after, api.OK)
		}
		if l := came(w, 9000); !slices.Equal(l, edgeAfters) {
			t.Fatalf("V3: from %d on they come at %v", begin, l)
		}
	}
}
