package ring_test

import (
	"runtime"
	"testing"
	"weak"

	"crossway/ring"
)

// big is large enough that no other object shares its memory.
type big [1 << 12]byte

// element is an element that refers to memory in two ways.
type element struct {
	p *big
	l []*big
}

// pushBig pushes an element, and returns a reference to its memory that doesn't keep it
// alive.
func pushBig(t *testing.T, r *ring.Ring[element], want bool) weak.Pointer[big] {
	t.Helper()
	p := new(big)
	expectPush(t, r, element{p, []*big{p}}, want)
	return weak.Make(p)
}

// popBig pops an element that refers to p.
func popBig(t *testing.T, r *ring.Ring[element], p weak.Pointer[big]) {
	t.Helper()
	if v, ok := r.Pop(); !ok || v.p == nil || v.p != p.Value() || v.l[0] != v.p {
		t.Fatalf("Pop is another element, or %t", ok)
	}
}

// expectGone expects that nothing keeps p alive.
func expectGone(t *testing.T, p weak.Pointer[big], what string) {
	t.Helper()
	for range 5 {
		runtime.GC()
		if p.Value() == nil {
			return
		}
	}
	t.Errorf("%s is kept alive", what)
}

// TestPoppedIsNotKept: an element that has left the ring is no longer referenced by it,
// and one that is in the ring is.
func TestPoppedIsNotKept(t *testing.T) {
	for order := range 3 {
		r := made[element](t, order)
		for range 2<<order + 1 {
			var in []weak.Pointer[big]
			for range 1 << order {
				in = append(in, pushBig(t, r, true))
			}
			for i, p := range in {
				runtime.GC()
				popBig(t, r, p)
				expectGone(t, p, "an element that was popped")
				for _, p := range in[i+1:] {
					if p.Value() == nil {
						t.Fatal("an element that is in the ring is gone")
					}
				}
			}
			// One more, so that the next turn begins at another place.
			p := pushBig(t, r, true)
			popBig(t, r, p)
			expectGone(t, p, "an element that was popped")
		}
		runtime.KeepAlive(r)
	}
}

// TestPeekedIsNotKept: nor does Peek keep what it has returned.
func TestPeekedIsNotKept(t *testing.T) {
	r := made[element](t, 1)
	p := pushBig(t, r, true)
	q := pushBig(t, r, true)
	for i, w := range []weak.Pointer[big]{p, q} {
		if v, ok := r.Peek(i); !ok || v.p != w.Value() {
			t.Fatalf("Peek(%d) is another element, or %t", i, ok)
		}
	}
	popBig(t, r, p)
	expectGone(t, p, "an element that was peeked at and popped")
	popBig(t, r, q)
	expectGone(t, q, "an element that was peeked at and popped")
	runtime.KeepAlive(r)
}

// TestRefusedIsNotKept: what Push returned false for is not referenced.
func TestRefusedIsNotKept(t *testing.T) {
	r := made[element](t, 0)
	in := pushBig(t, r, true)
	refused := pushBig(t, r, false)
	expectGone(t, refused, "an element that was refused")
	popBig(t, r, in)
	expectGone(t, in, "an element that was popped")
	runtime.KeepAlive(r)
}
