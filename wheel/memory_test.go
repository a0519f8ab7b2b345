package wheel_test

import (
	"slices"
	"testing"

	"crossway/wheel"
)

// spoil writes into a list, into its spare capacity and behind it.
func spoil(list []int) {
	for i := range list {
		list[i] = -99
	}
	for i := range list[:cap(list)] {
		list[:cap(list)][i] = -98
	}
	_ = append(list, -97, -96, -95)
}

// Whoever writes into what Tick returned, and appends to it, changes nothing that is told later.
func TestResultsAreNew(t *testing.T) {
	for _, begin := range []int{0, 9, 255} {
		w, p := madeAt(t, begin), &plain{now: begin}
		for round := range 6 {
			for id := range 60 {
				addBoth(t, w, p, round*100+id, 1+id%7*(id%5+1)*(1+id%4*20))
			}
			for range 40 {
				want := p.tick()
				got := w.Tick()
				if !slices.Equal(got, want) {
					t.Fatalf("V3: at %d Tick is %v, not %v", p.now, got, want)
				}
				spoil(got)
				expectAs(t, w, p)
			}
		}
		endBoth(t, w, p)
	}
}

// The results of earlier ticks stay as they were, whatever is done later.
func TestResultsStay(t *testing.T) {
	w := made(t)
	var got, want [][]int
	for n := range 600 {
		for id := range 3 {
			w.Add(n*3+id, 1+n*id%300)
		}
		l := w.Tick()
		got, want = append(got, l), append(want, slices.Clone(l))
	}
	for i := range got {
		if !slices.Equal(got[i], want[i]) {
			t.Fatalf("R3: what the tick %d returned is now %v, not %v", i+1, got[i], want[i])
		}
		spoil(got[i])
		for j := i + 1; j < len(got); j++ {
			if !slices.Equal(got[j], want[j]) {
				t.Fatalf("R3: the ticks %d and %d share memory", i+1, j+1)
			}
		}
	}
}

// What is done to one wheel is not to be seen in another.
func TestIndependence(t *testing.T) {
	s := source(17)
	var wheels [3]*wheel.Wheel
	var plains [3]plain
	for i := range wheels {
		wheels[i] = made(t)
	}
	for range 6000 {
		i := s.below(3)
		change(t, &s, wheels[i], &plains[i], 12)
		for j := range wheels {
			expectSays(t, wheels[j], plains[j].now, len(plains[j].in), plains[j].next())
		}
	}
	for i := range wheels {
		expectAs(t, wheels[i], &plains[i])
		endBoth(t, wheels[i], &plains[i])
	}
}
