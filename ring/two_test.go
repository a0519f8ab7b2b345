package ring_test

import (
	"runtime"
	"sync"
	"sync/atomic"
	"testing"

	"crossway/ring"
)

// between is a producer and a consumer of one ring, and what each of them knows of how
// far the other one is.
type between struct {
	r          *ring.Ring[[]int]
	size, n    int64
	tries      atomic.Int64 // calls of Pop that were begun, without those that returned false
	done       atomic.Int64 // calls of Pop that have returned true
	begun      atomic.Int64 // calls of Push that were begun, without those that returned false
	given      atomic.Int64 // calls of Push that have returned true
	fault      atomic.Pointer[string]
	idle, rest func(i int64) // what each of them does between its calls
}

func (b *between) fail(s string) { b.fault.CompareAndSwap(nil, &s) }

// produce pushes n lists, the i-th of which is i, 2i.
func (b *between) produce() {
	for i := int64(0); i < b.n && b.fault.Load() == nil; {
		// The ring has room whatever the consumer does meanwhile, as it only makes more.
		must := i-b.done.Load() < b.size
		b.begun.Store(i + 1)
		ok := b.r.Push([]int{int(i), int(2 * i)})
		if ok {
			b.given.Store(i + 1)
			i++
			if i-b.tries.Load() > b.size {
				b.fail("Push is true of a full ring")
			}
		} else {
			b.begun.Store(i)
			runtime.Gosched()
		}
		if must && !ok {
			b.fail("Push is false of a ring with room")
		}
		b.idle(i)
	}
}

// consume pops n lists, and expects them in their order.
func (b *between) consume() {
	for i := int64(0); i < b.n && b.fault.Load() == nil; {
		must := b.given.Load() > i
		b.tries.Store(i + 1)
		v, ok := b.r.Pop()
		switch {
		case !ok && v != nil:
			b.fail("Pop is false, with an element")
		case !ok && must:
			b.fail("Pop is false of a ring with elements")
		case !ok:
			b.tries.Store(i)
			runtime.Gosched()
		case len(v) != 2 || v[0] != int(i) || v[1] != int(2*i):
			b.fail("Pop is another element")
		case b.begun.Load() <= i:
			b.fail("Pop is true of an empty ring")
		default:
			i++
			b.done.Store(i)
		}
		b.rest(i)
	}
}

// run passes n elements through a ring, from one goroutine to another one.
func (b *between) run(t *testing.T, order int) {
	t.Helper()
	b.r, b.size = made[[]int](t, order), 1<<order
	var w sync.WaitGroup
	w.Go(b.produce)
	w.Go(b.consume)
	w.Wait()
	if s := b.fault.Load(); s != nil {
		t.Fatalf("order %d: %s", order, *s)
	}
	expectSaid(t, b.r, said{0, 1 << order, uint64(b.n), uint64(b.n)})
	if v, ok := b.r.Pop(); v != nil || ok {
		t.Fatalf("order %d: Pop is %v %t of none", order, v, ok)
	}
}

func TestTwoGoroutines(t *testing.T) {
	never := func(int64) {}
	sometimes := func(i int64) {
		if i%64 == 0 {
			runtime.Gosched()
		}
	}
	for _, order := range []int{0, 1, 2, 3, 7, 16} {
		for _, b := range []*between{{idle: never, rest: never}, {idle: sometimes, rest: never}, {idle: never, rest: sometimes}} {
			b.n = 20000
			b.run(t, order)
		}
	}
}

// TestTwoGoroutinesCount: each of the two learns from the counts how many of its own
// calls returned true, while the other one goes on.
func TestTwoGoroutinesCount(t *testing.T) {
	const n = 20000
	r := made[int](t, 2)
	var w sync.WaitGroup
	w.Go(func() {
		for i := uint64(0); i < n; {
			if r.Push(int(i)) {
				i++
			} else {
				runtime.Gosched()
			}
			if r.Pushed() != i {
				t.Errorf("Pushed is %d, not %d", r.Pushed(), i)
				return
			}
		}
	})
	w.Go(func() {
		for i := uint64(0); i < n; {
			if _, ok := r.Pop(); ok {
				i++
			} else {
				runtime.Gosched()
			}
			if r.Popped() != i {
				t.Errorf("Popped is %d, not %d", r.Popped(), i)
				return
			}
		}
	})
	w.Wait()
}

// TestTwoPairs: two rings between goroutines of their own do not meet.
func TestTwoPairs(t *testing.T) {
	const n = 10000
	var w sync.WaitGroup
	for k := range 4 {
		r := made[int](t, 1)
		w.Go(func() {
			for i := 0; i < n; {
				if r.Push(4*i + k) {
					i++
				} else {
					runtime.Gosched()
				}
			}
		})
		w.Go(func() {
			for i := 0; i < n; {
				v, ok := r.Pop()
				if !ok {
					runtime.Gosched()
					continue
				}
				if v != 4*i+k {
					t.Errorf("ring %d: %d in the place of %d", k, v, 4*i+k)
				}
				i++
			}
		})
	}
	w.Wait()
}

// TestHandOver: one goroutine after another one may be the consumer, and the producer.
func TestHandOver(t *testing.T) {
	r, p := made[int](t, 3), newPlain[int](3)
	for turn := range 50 {
		var w sync.WaitGroup
		w.Go(func() {
			for i := range turn % 11 {
				if r.Push(i) != p.push(i) {
					t.Errorf("turn %d: Push(%d)", turn, i)
				}
			}
		})
		w.Wait()
		w.Go(func() {
			for range turn % 7 {
				v, ok := r.Pop()
				if x, is := p.pop(); v != x || ok != is {
					t.Errorf("turn %d: Pop is %d %t, not %d %t", turn, v, ok, x, is)
				}
			}
		})
		w.Wait()
		expectAs(t, r, p)
	}
}
