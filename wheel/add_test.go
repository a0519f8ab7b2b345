package wheel_test

import (
	"slices"
	"testing"

	"crossway/api"
)

func TestAddAfters(t *testing.T) {
	for _, begin := range []int{0, 1, 15, 16, 250, 4095} {
		for _, after := range edgeAfters {
			w := madeAt(t, begin)
			expectAdd(t, w, 3, after, api.OK)
			expectSays(t, w, begin, 1, after)
			expectLeft(t, w, 3, after, true)
			expectTicks(t, w, after-1)
			expectTick(t, w, 3)
			expectSays(t, w, begin+after, 0, 0)
			expectLeft(t, w, 3, 0, false)
		}
	}
}

func TestAddWrongAfters(t *testing.T) {
	for _, begin := range []int{0, 1, 16, 4095} {
		w, p := madeAt(t, begin), &plain{now: begin}
		refuse(t, w, p, 3, wrongAfters, api.ErrArg)
		addBoth(t, w, p, 4, 17)
		addBoth(t, w, p, 5, 4095)
		refuse(t, w, p, 3, wrongAfters, api.ErrArg)
		endBoth(t, w, p)
	}
}

// An after that is wrong is told of ahead of an id that waits, and of want of room.
func TestAddFirstError(t *testing.T) {
	w, p := made(t), &plain{}
	addBoth(t, w, p, 3, 300)
	refuse(t, w, p, 3, wrongAfters, api.ErrArg)
	refuse(t, w, p, 3, edgeAfters, api.ErrWheelThere)
	for id := 4; len(p.in) < 1000; id++ {
		addBoth(t, w, p, id, id)
	}
	refuse(t, w, p, 3, wrongAfters, api.ErrArg)
	refuse(t, w, p, 2, wrongAfters, api.ErrArg)
	refuse(t, w, p, 3, edgeAfters, api.ErrWheelThere)
	refuse(t, w, p, 2, edgeAfters, api.ErrWheelFull)
	endBoth(t, w, p)
}

// An id that waits is refused at each tick of its time, and is taken again as soon as it has come out.
func TestAddThere(t *testing.T) {
	for _, after := range []int{1, 2, 15, 16, 17, 255, 256, 257, 600} {
		for _, begin := range []int{0, 9, 250} {
			w := madeAt(t, begin)
			expectAdd(t, w, -7, after, api.OK)
			for left := after; left > 0; left-- {
				expectAdd(t, w, -7, after, api.ErrWheelThere)
				expectAdd(t, w, -7, 4095, api.ErrWheelThere)
				expectLeft(t, w, -7, left, true)
				expectSays(t, w, begin+after-left, 1, left)
				if left > 1 {
					expectTick(t, w)
				}
			}
			expectTick(t, w, -7)
			expectAdd(t, w, -7, after, api.OK)
			expectAdd(t, w, -7, after, api.ErrWheelThere)
			expectSays(t, w, begin+after, 1, after)
		}
	}
}

func TestAddAnyId(t *testing.T) {
	w, p := madeAt(t, 11), &plain{now: 11}
	for i, id := range farIds {
		addBoth(t, w, p, id, edgeAfters[i*2])
	}
	for _, id := range farIds {
		refuse(t, w, p, id, []int{1, 4095}, api.ErrWheelThere)
	}
	for i, id := range farIds {
		if i%3 == 0 {
			cancelBoth(t, w, p, id)
			cancelBoth(t, w, p, id)
			addBoth(t, w, p, id, edgeAfters[i])
		}
		expectAs(t, w, p)
	}
	endBoth(t, w, p)
}

// The timer 1001 is refused, till a Cancel or a Tick makes room.
func TestAddFull(t *testing.T) {
	w, p := made(t), &plain{}
	for id := range 999 {
		addBoth(t, w, p, id, id+1)
	}
	expectSays(t, w, 0, 999, 1)
	addBoth(t, w, p, 999, 1000)
	expectSays(t, w, 0, 1000, 1)
	refuse(t, w, p, 1000, edgeAfters, api.ErrWheelFull)
	refuse(t, w, p, -1, edgeAfters, api.ErrWheelFull)
	refuse(t, w, p, 999, edgeAfters, api.ErrWheelThere)
	cancelBoth(t, w, p, 500)
	addBoth(t, w, p, 1000, 4095)
	refuse(t, w, p, 500, edgeAfters, api.ErrWheelFull)
	tickBoth(t, w, p)
	addBoth(t, w, p, 0, 1)
	refuse(t, w, p, 500, edgeAfters, api.ErrWheelFull)
	tickBoth(t, w, p)
	addBoth(t, w, p, 500, 1)
	addBoth(t, w, p, 0, 1)
	refuse(t, w, p, 1, edgeAfters, api.ErrWheelFull)
	endBoth(t, w, p)
}

// Want of room ends where a tick at which nothing is due does not, and one at which all are does.
func TestAddFullAtOnce(t *testing.T) {
	for _, after := range []int{2, 16, 17, 256, 300, 4095} {
		w, p := madeAt(t, 5), &plain{now: 5}
		for id := range 1000 {
			addBoth(t, w, p, id*7%1000, after)
		}
		refuse(t, w, p, 1000, []int{1, after}, api.ErrWheelFull)
		for range after - 1 {
			tickBoth(t, w, p)
		}
		refuse(t, w, p, 1000, []int{1, after}, api.ErrWheelFull)
		tickBoth(t, w, p)
		expectSays(t, w, 5+after, 0, 0)
		for id := range 1000 {
			addBoth(t, w, p, id+1000, after)
		}
		refuse(t, w, p, 1, []int{1, after}, api.ErrWheelFull)
	}
}

func TestCancel(t *testing.T) {
	for _, after := range edgeAfters {
		w := madeAt(t, 13)
		expectCancel(t, w, 4, false) // it never waited
		expectAdd(t, w, 4, after, api.OK)
		expectCancel(t, w, 5, false)
		expectSays(t, w, 13, 1, after)
		expectCancel(t, w, 4, true)
		expectSays(t, w, 13, 0, 0)
		expectLeft(t, w, 4, 0, false)
		expectCancel(t, w, 4, false) // it was cancelled
		expectAdd(t, w, 4, after, api.OK)
		expectTicks(t, w, after-1)
		expectTick(t, w, 4)
		expectCancel(t, w, 4, false) // it has come out
		expectSays(t, w, 13+after, 0, 0)
		expectTicks(t, w, 4096)
	}
}

// What is cancelled at any tick of its time never comes, and those beside it come when they are due.
func TestCancelLate(t *testing.T) {
	for _, after := range []int{1, 2, 15, 16, 17, 40, 255, 256, 257, 300} {
		for passed := range after {
			w, p := madeAt(t, 10), &plain{now: 10}
			for _, id := range []int{1, 2, 3} {
				addBoth(t, w, p, id, after)
			}
			for range passed {
				tickBoth(t, w, p)
			}
			cancelBoth(t, w, p, 1+passed%3)
			expectAs(t, w, p)
			for range after - passed {
				tickBoth(t, w, p)
			}
			expectSays(t, w, 10+after, 0, 0)
		}
	}
}

// Of several that are in one slot, any may be cancelled, in any order.
func TestCancelAmongOthers(t *testing.T) {
	ids := []int{1, 2, 3, 4}
	for _, after := range []int{3, 50, 700} {
		for _, first := range ids {
			for _, second := range ids {
				w, p := madeAt(t, 6), &plain{now: 6}
				for _, id := range ids {
					addBoth(t, w, p, id, after)
				}
				cancelBoth(t, w, p, first)
				cancelBoth(t, w, p, second)
				expectAs(t, w, p)
				addBoth(t, w, p, 9, after)
				addBoth(t, w, p, first, after)
				expectAs(t, w, p)
				for range after {
					tickBoth(t, w, p)
				}
				expectSays(t, w, 6+after, 0, 0)
			}
		}
	}
}

func TestCancelFar(t *testing.T) {
	w, p := made(t), &plain{}
	for _, id := range farIds {
		cancelBoth(t, w, p, id)
	}
	addBoth(t, w, p, 8, 20)
	for _, id := range slices.Concat(farIds, wrongAfters) {
		cancelBoth(t, w, p, id)
	}
	expectAs(t, w, p)
	endBoth(t, w, p)
}
