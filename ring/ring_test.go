package ring_test

import (
	"math"
	"testing"

	"crossway/ring"
)

// source makes numbers that look like chance, the same ones each time.
type source uint64

func (s *source) next() uint64 {
	*s = *s*6364136223846793005 + 1442695040888963407
	return uint64(*s ^ *s>>29)
}

func (s *source) below(n int) int { return int(s.next() >> 11 % uint64(n)) }

// wrongOrders are those of no ring.
var wrongOrders = []int{math.MinInt, math.MinInt + 1, math.MinInt32, -65, -64, -63, -16, -2, -1, 17, 18, 31, 32, 33, 63, 64, 65, 80, 1 << 16, math.MaxInt32, 1 << 32, 1<<32 + 1, 1 << 62, math.MaxInt - 1, math.MaxInt}

// farPlaces are places at which no ring has an element.
var farPlaces = []int{math.MinInt, math.MinInt + 1, math.MinInt + 1<<16, math.MinInt32, -1 << 32, -65536, -65535, -3, -2, -1, 65536, 65537, 1 << 17, math.MaxInt32, 1 << 32, 1<<32 + 1, 1 << 62, math.MaxInt - 1, math.MaxInt}

// made is a new ring that is there.
func made[T any](t *testing.T, order int) *ring.Ring[T] {
	t.Helper()
	r := ring.New[T](order)
	if r == nil {
		t.Fatalf("New(%d) is nil", order)
	}
	return r
}

// plain is a ring in another way: a list of the elements that are in, and two counts.
type plain[T comparable] struct {
	size           int
	in             []T
	pushed, popped uint64
}

func newPlain[T comparable](order int) *plain[T] { return &plain[T]{size: 1 << order} }

func (p *plain[T]) push(v T) bool {
	if len(p.in) == p.size {
		return false
	}
	p.in = append(p.in, v)
	p.pushed++
	return true
}

func (p *plain[T]) pop() (v T, ok bool) {
	if len(p.in) == 0 {
		return v, false
	}
	v, p.in = p.in[0], p.in[1:]
	p.popped++
	return v, true
}

func (p *plain[T]) peek(i int) (v T, ok bool) {
	if i < 0 || i >= len(p.in) {
		return v, false
	}
	return p.in[i], true
}

// said is what a ring says of itself.
type said struct {
	length, room   int
	pushed, popped uint64
}

func saidBy[T any](r *ring.Ring[T]) said {
	return said{r.Len(), r.Room(), r.Pushed(), r.Popped()}
}

func (p *plain[T]) said() said {
	return said{len(p.in), p.size - len(p.in), p.pushed, p.popped}
}

func expectSaid[T any](t *testing.T, r *ring.Ring[T], want said) {
	t.Helper()
	if got := saidBy(r); got != want {
		t.Fatalf("says %v, not %v", got, want)
	}
}

// expectPeek holds what is at one place of a ring against what a plain one has there.
func expectPeek[T comparable](t *testing.T, r *ring.Ring[T], p *plain[T], i int) {
	t.Helper()
	v, ok := r.Peek(i)
	if w, is := p.peek(i); v != w || ok != is {
		t.Fatalf("Peek(%d) of %d is %v %t, not %v %t", i, len(p.in), v, ok, w, is)
	}
}

// expectAs holds everything that a ring says against a plain one.
func expectAs[T comparable](t *testing.T, r *ring.Ring[T], p *plain[T]) {
	t.Helper()
	expectSaid(t, r, p.said())
	for i := -1; i <= len(p.in)+1; i++ {
		expectPeek(t, r, p, i)
	}
	expectPeek(t, r, p, p.size-1)
	expectPeek(t, r, p, p.size)
	expectPeek(t, r, p, p.size+1)
	for _, i := range farPlaces {
		expectPeek(t, r, p, i)
	}
	expectSaid(t, r, p.said()) // to peek changes nothing
}

// pushBoth pushes an element onto a ring and a plain one.
func pushBoth[T comparable](t *testing.T, r *ring.Ring[T], p *plain[T], v T) {
	t.Helper()
	if got, want := r.Push(v), p.push(v); got != want {
		t.Fatalf("Push(%v) is %t: %v", v, got, p.said())
	}
	expectSaid(t, r, p.said())
}

// popBoth pops an element of a ring and of a plain one.
func popBoth[T comparable](t *testing.T, r *ring.Ring[T], p *plain[T]) {
	t.Helper()
	v, ok := r.Pop()
	if w, is := p.pop(); v != w || ok != is {
		t.Fatalf("Pop is %v %t, not %v %t", v, ok, w, is)
	}
	expectSaid(t, r, p.said())
}

func expectPush[T any](t *testing.T, r *ring.Ring[T], v T, want bool) {
	t.Helper()
	if got := r.Push(v); got != want {
		t.Fatalf("Push(%v) is %t", v, got)
	}
}

func expectPop[T comparable](t *testing.T, r *ring.Ring[T], want T, ok bool) {
	t.Helper()
	if v, is := r.Pop(); v != want || is != ok {
		t.Fatalf("Pop is %v %t, not %v %t", v, is, want, ok)
	}
}

func TestExample(t *testing.T) {
	r := made[int](t, 1)
	expectPush(t, r, 5, true)
	expectPush(t, r, 6, true)
	expectPush(t, r, 7, false)
	expectPop(t, r, 5, true)
	expectPush(t, r, 7, true)
	if v, ok := r.Peek(1); v != 7 || !ok {
		t.Errorf("Peek(1) is %d %t", v, ok)
	}
	if v, ok := r.Peek(2); v != 0 || ok {
		t.Errorf("Peek(2) is %d %t", v, ok)
	}
	expectSaid(t, r, said{2, 0, 3, 1})
}

func TestNewEachOrder(t *testing.T) {
	for order := range 17 {
		r, p := made[int](t, order), newPlain[int](order)
		expectSaid(t, r, said{0, 1 << order, 0, 0})
		expectAs(t, r, p)
		popBoth(t, r, p)
		expectAs(t, r, p)
	}
}

func TestNewWrongOrders(t *testing.T) {
	for _, order := range wrongOrders {
		if ring.New[int](order) != nil || ring.New[string](order) != nil || ring.New[[]byte](order) != nil || ring.New[struct{}](order) != nil {
			t.Errorf("New(%d) is a ring", order)
		}
	}
}

// TestNilRing: New returned it, and no call panics.
func TestNilRing(t *testing.T) {
	r := ring.New[string](-1)
	for range 2 {
		expectPush(t, r, "a", false)
		expectPop(t, r, "", false)
		for _, i := range append([]int{0, 1}, farPlaces...) {
			if v, ok := r.Peek(i); v != "" || ok {
				t.Errorf("Peek(%d) is %q %t", i, v, ok)
			}
		}
		expectSaid(t, r, said{})
	}
}

// TestFillAndEmpty fills a ring of each order, and empties it, with more calls than it
// takes.
func TestFillAndEmpty(t *testing.T) {
	for order := range 17 {
		r, p := made[int](t, order), newPlain[int](order)
		for turn := range 3 {
			for i := range 1<<order + 2 {
				pushBoth(t, r, p, turn<<20+i+1)
			}
			expectAs(t, r, p)
			for range 1<<order + 2 {
				popBoth(t, r, p)
			}
			expectAs(t, r, p)
		}
		n := uint64(3) << order
		expectSaid(t, r, said{0, 1 << order, n, n})
	}
}

// TestEmpty: a ring that is empty stays so, whether it has held anything or not.
func TestEmpty(t *testing.T) {
	for _, order := range []int{0, 1, 5, 16} {
		r, p := made[int](t, order), newPlain[int](order)
		for range 5 {
			for range 3 {
				popBoth(t, r, p)
				expectAs(t, r, p)
			}
			pushBoth(t, r, p, 9)
			popBoth(t, r, p)
		}
	}
}

// TestFull: what is pushed onto a full ring changes nothing in it.
func TestFull(t *testing.T) {
	for _, order := range []int{0, 1, 2, 6} {
		r, p := made[int](t, order), newPlain[int](order)
		for i := range 1 << order {
			pushBoth(t, r, p, i+1)
		}
		for range 3 << order {
			for range 3 {
				expectPush(t, r, -7, false)
				expectAs(t, r, p)
			}
			popBoth(t, r, p)
			pushBoth(t, r, p, 100)
		}
	}
}

// TestOneLess: onto a ring with room for one more goes one more, and no second one.
func TestOneLess(t *testing.T) {
	for _, order := range []int{0, 1, 4, 10} {
		r, p := made[int](t, order), newPlain[int](order)
		for i := range 1<<order - 1 {
			pushBoth(t, r, p, i+1)
		}
		for i := range 3 << order {
			expectPush(t, r, 1000+i, p.push(1000+i))
			expectPush(t, r, -1, false)
			expectSaid(t, r, p.said())
			popBoth(t, r, p)
		}
		expectAs(t, r, p)
	}
}

// TestOneElement: of a ring with one element one is popped, and no second one.
func TestOneElement(t *testing.T) {
	for _, order := range []int{0, 1, 4, 10} {
		r := made[int](t, order)
		for i := range 3 << order {
			expectPush(t, r, i+1, true)
			expectSaid(t, r, said{1, 1<<order - 1, uint64(i + 1), uint64(i)})
			expectPop(t, r, i+1, true)
			expectPop(t, r, 0, false)
			expectSaid(t, r, said{0, 1 << order, uint64(i + 1), uint64(i + 1)})
		}
	}
}

// TestPeekEachTurn: a ring is read at every place, wherever in its memory it begins and
// however many elements it has.
func TestPeekEachTurn(t *testing.T) {
	for order := range 5 {
		size := 1 << order
		for begin := range 2*size + 1 {
			for n := range size + 1 {
				r, p := made[int](t, order), newPlain[int](order)
				for i := range begin {
					pushBoth(t, r, p, -i-1)
					popBoth(t, r, p)
				}
				for i := range n {
					pushBoth(t, r, p, i+1)
				}
				expectAs(t, r, p)
			}
		}
	}
}

// TestPeekGreatest: the greatest ring is read at every place, also where its elements
// lie over the end of its memory.
func TestPeekGreatest(t *testing.T) {
	r, p := made[int](t, 16), newPlain[int](16)
	for i := range 1 << 16 {
		pushBoth(t, r, p, i)
	}
	expectAs(t, r, p)
	for i := range 40000 {
		popBoth(t, r, p)
		pushBoth(t, r, p, 70000+i)
	}
	expectAs(t, r, p)
}

// TestManyTurns: rings turn round many times, with each number of elements in them.
func TestManyTurns(t *testing.T) {
	for _, order := range []int{0, 1, 3} {
		for n := range 1<<order + 1 {
			r, p := made[int](t, order), newPlain[int](order)
			for i := range n {
				pushBoth(t, r, p, i)
			}
			for i := range 20000 {
				if n == 1<<order {
					popBoth(t, r, p)
					pushBoth(t, r, p, n+i)
				} else {
					pushBoth(t, r, p, n+i)
					popBoth(t, r, p)
				}
			}
			expectAs(t, r, p)
		}
	}
}
