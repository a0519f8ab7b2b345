package ring_test

import (
	"slices"
	"testing"
)

// TestEveryMixture plays every mixture of a number of pushes and pops.
func TestEveryMixture(t *testing.T) {
	const calls = 11
	for order := range 4 {
		for mixture := range 1 << calls {
			r, p := made[int](t, order), newPlain[int](order)
			for i := range calls {
				if mixture>>i&1 == 1 {
					pushBoth(t, r, p, i+1)
				} else {
					popBoth(t, r, p)
				}
			}
			expectAs(t, r, p)
		}
	}
}

// TestAnyMixture plays long mixtures, which tend to fill a ring and then to empty it.
func TestAnyMixture(t *testing.T) {
	s := source(12)
	for order := range 17 {
		r, p := made[uint64](t, order), newPlain[uint64](order)
		for i := range 6000 {
			often := 2 + 6*(i>>order>>1&1)
			if s.below(10) < often {
				pushBoth(t, r, p, s.next())
			} else {
				popBoth(t, r, p)
			}
			expectPeek(t, r, p, s.below(1<<order+2)-1)
			if i%500 == 0 {
				expectAs(t, r, p)
			}
		}
	}
}

// TestInOrder: what is popped, in the order in which it is, is what Push returned true
// for, in the order in which it was pushed, each once.
func TestInOrder(t *testing.T) {
	s := source(34)
	for order := range 9 {
		r := made[int](t, order)
		var in, out []int
		for i := range 5000 {
			for range s.below(4) {
				if r.Push(i) {
					in = append(in, i)
				}
			}
			for range s.below(4) {
				if v, ok := r.Pop(); ok {
					out = append(out, v)
				}
			}
			if r.Len()+r.Room() != 1<<order || uint64(r.Len()) != r.Pushed()-r.Popped() {
				t.Fatalf("says %v", saidBy(r))
			}
			if r.Pushed() != uint64(len(in)) || r.Popped() != uint64(len(out)) {
				t.Fatalf("says %v, not %d and %d", saidBy(r), len(in), len(out))
			}
		}
		for v, ok := r.Pop(); ok; v, ok = r.Pop() {
			out = append(out, v)
		}
		if !slices.Equal(in, out) {
			t.Fatalf("order %d: popped other elements, or in another order", order)
		}
	}
}

// TestRingsAreIndependent: calls of several rings, one among the other, are as if each
// ring were alone.
func TestRingsAreIndependent(t *testing.T) {
	s := source(56)
	for a := range 6 {
		for b := range 6 {
			r, p := made[int](t, a), newPlain[int](a)
			other, q := made[int](t, b), newPlain[int](b)
			for range 300 {
				x, y := r, p
				if s.below(2) == 0 {
					x, y = other, q
				}
				if s.below(2) == 0 {
					pushBoth(t, x, y, s.below(1000)+1)
				} else {
					popBoth(t, x, y)
				}
				expectSaid(t, r, p.said())
				expectSaid(t, other, q.said())
			}
			expectAs(t, r, p)
			expectAs(t, other, q)
		}
	}
}

// TestSameCallsSameAnswers: what a ring answers hangs on the calls of it alone.
func TestSameCallsSameAnswers(t *testing.T) {
	answers := func() (l []int) {
		s := source(78)
		r := made[int](t, 2)
		for i := range 2000 {
			if s.below(2) == 0 && r.Push(i) {
				l = append(l, -1)
			}
			if v, ok := r.Peek(s.below(6) - 1); ok {
				l = append(l, v)
			}
			if v, ok := r.Pop(); s.below(3) > 0 && ok {
				l = append(l, v)
			}
			l = append(l, r.Len(), r.Room(), int(r.Pushed()), int(r.Popped()))
		}
		return l
	}
	if !slices.Equal(answers(), answers()) {
		t.Error("two rings answer differently to the same calls")
	}
}
