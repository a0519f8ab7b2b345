package ring_test

import (
	"math"
	"slices"
	"testing"

	"crossway/api"
	"crossway/ring"
)

// expectKind passes elements of one type through rings, also over the end of their
// memory, and expects the zero value beside each false.
func expectKind[T comparable](t *testing.T, some ...T) {
	t.Helper()
	for order := range 4 {
		r, p := made[T](t, order), newPlain[T](order)
		expectAs(t, r, p)
		for i := range 40 {
			pushBoth(t, r, p, some[i%len(some)])
			expectAs(t, r, p)
			if i%3 == 2 || r.Room() == 0 {
				popBoth(t, r, p)
				expectAs(t, r, p)
			}
		}
		for range 1<<order + 1 {
			popBoth(t, r, p)
			expectAs(t, r, p)
		}
	}
}

// pair is a struct of a test's own.
type pair struct {
	name string
	at   [3]int
	next *pair
}

func TestKindsOfElements(t *testing.T) {
	expectKind(t, 1, 0, -1, math.MinInt, math.MaxInt)
	expectKind(t, byte(255), 0, 7)
	expectKind[uint64](t, math.MaxUint64, 0, 1)
	expectKind(t, 1.5, 0, math.Inf(1))
	expectKind(t, 2+3i, 0, -1i)
	expectKind(t, true, false, true)
	expectKind(t, "one", "", "a longer text, with \x00 and \xff in it")
	expectKind(t, struct{}{})
	expectKind(t, [3]string{"a", "b", "c"}, [3]string{})
	expectKind(t, api.Addr{Six: true, Hi: 1, Lo: 2}, api.Addr{}, api.Addr{Lo: 3})
	expectKind(t, api.Frame{To: 1, From: 2, Kind: api.KindArp, Data: "data"}, api.Frame{})
	expectKind(t, pair{"a", [3]int{1, 2, 3}, &pair{}}, pair{}, pair{name: "b"})
	expectKind(t, &pair{name: "a"}, nil, &pair{name: "a"})
	expectKind[any](t, 1, "text", nil, pair{name: "a"}, &pair{})
	expectKind[error](t, nil)
	expectKind(t, make(chan int), nil, make(chan int, 1))
	expectKind(t, made[int](t, 0), nil, made[int](t, 1))
}

// isSame reports whether two lists are the same one: their elements, their lengths and
// their room are.
func isSame(a, b []int) bool {
	if (a == nil) != (b == nil) || len(a) != len(b) || cap(a) != cap(b) {
		return false
	}
	return cap(a) == 0 || &a[:1][0] == &b[:1][0]
}

// TestListsAreHandedOn: a ring of lists hands on the very lists that were pushed.
func TestListsAreHandedOn(t *testing.T) {
	r := made[[]int](t, 1)
	for _, l := range [][]int{{1, 2, 3}, nil, {}, make([]int, 0, 5), make([]int, 2, 9), {7}} {
		kept := slices.Clone(l[:cap(l)])
		expectPush(t, r, l, true)
		if v, ok := r.Peek(0); !ok || !isSame(v, l) {
			t.Errorf("Peek is %v %t, not the list %v", v, ok, l)
		}
		v, ok := r.Pop()
		if !ok || !isSame(v, l) {
			t.Errorf("Pop is %v %t, not the list %v", v, ok, l)
		}
		if !slices.Equal(l[:cap(l)], kept) {
			t.Errorf("the list was changed to %v", l[:cap(l)])
		}
		for i := range v {
			v[i] = -4
			if l[i] != -4 {
				t.Error("Pop is another list")
			}
		}
		if v, ok := r.Pop(); v != nil || ok {
			t.Errorf("Pop is %v %t of none", v, ok)
		}
		if v, ok := r.Peek(0); v != nil || ok {
			t.Errorf("Peek is %v %t of none", v, ok)
		}
	}
}

// TestOneListTwice: a list that is in a ring twice is handed on twice, and what is
// written into it while it waits stands in it.
func TestOneListTwice(t *testing.T) {
	r := made[[]int](t, 1)
	l := []int{1, 2}
	expectPush(t, r, l, true)
	expectPush(t, r, l[:1], true)
	l[0] = 5
	v, _ := r.Pop()
	w, _ := r.Pop()
	if !isSame(v, l) || !isSame(w, l[:1]) || v[0] != 5 {
		t.Errorf("popped %v and %v", v, w)
	}
}

// TestUncomparableElements: rings of maps and of functions hand them on.
func TestUncomparableElements(t *testing.T) {
	maps := made[map[string]int](t, 0)
	m := map[string]int{"a": 1}
	expectPush(t, maps, m, true)
	m["b"] = 2
	if v, ok := maps.Pop(); !ok || v["b"] != 2 {
		t.Errorf("Pop is %v %t", v, ok)
	}
	if v, ok := maps.Pop(); v != nil || ok {
		t.Errorf("Pop is %v %t of none", v, ok)
	}
	calls := made[func() int](t, 0)
	expectPush(t, calls, func() int { return 8 }, true)
	if f, ok := calls.Pop(); !ok || f() != 8 {
		t.Errorf("Pop is another function, or %t", ok)
	}
	if f, ok := calls.Peek(0); f != nil || ok {
		t.Errorf("Peek is a function, or %t", ok)
	}
}

// TestRingOfRings: an element may be a ring, also the one that it is in.
func TestRingOfRings(t *testing.T) {
	type own struct{ r *ring.Ring[own] }
	r := made[own](t, 0)
	expectPush(t, r, own{r}, true)
	v, ok := r.Pop()
	if !ok || v.r != r {
		t.Fatalf("Pop is another ring, or %t", ok)
	}
	expectPop(t, v.r, own{}, false)
}
