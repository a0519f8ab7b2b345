package wheel_test

import (
	"slices"
	"testing"

	"crossway/api"
	"crossway/wheel"
)

// Each after, of a timer that is alone on a wheel.
func TestEveryAfterAlone(t *testing.T) {
	for _, begin := range []int{0, 1, 15, 16, 250, 255, 256, 4095, 4096} {
		w := madeAt(t, begin)
		for after := 1; after <= 4095; after++ {
			from := w.Now() // the wheel goes on, so the times at which they begin are many
			expectAdd(t, w, after, after, api.OK)
			for range after - 1 {
				if l := w.Tick(); len(l) != 0 {
					t.Fatalf("V5: %d of %d comes at %d: %v", after, from, w.Now(), l)
				}
			}
			if l := w.Tick(); len(l) != 1 || l[0] != after || w.Len() != 0 {
				t.Fatalf("V5: %d of %d does not come at %d: %v", after, from, w.Now(), l)
			}
		}
	}
}

// Each after, many timers together: each comes once, and that many ticks after its Add.
func TestEveryAfterTogether(t *testing.T) {
	for _, begin := range begins {
		for part := range 5 {
			w := madeAt(t, begin)
			for after := 1 + part; after <= 4095; after += 5 {
				expectAdd(t, w, after, after, api.OK)
			}
			for passed := 1; passed <= 4095+300; passed++ {
				l := w.Tick()
				due := passed <= 4095 && passed%5 == (1+part)%5
				if due && (len(l) != 1 || l[0] != passed) || !due && len(l) != 0 {
					t.Fatalf("V5: from %d on, behind %d ticks: %v", begin, passed, l)
				}
			}
			expectSays(t, w, begin+4395, 0, 0)
		}
	}
}

// Each after, begun at each time of a round of the two lower levels.
func TestEveryBegin(t *testing.T) {
	w, p := made(t), map[int]int{}
	for now := range 3 * 4096 {
		if w.Len() < 1000 {
			after := 1 + (now*now+now/3)%4095%[]int{15, 31, 255, 600, 4095}[now%5]
			expectAdd(t, w, now, after, api.OK)
			p[now] = now + after
		}
		for _, id := range w.Tick() {
			if p[id] != now+1 {
				t.Fatalf("V5: %d comes at %d, not at %d", id, now+1, p[id])
			}
			delete(p, id)
		}
		if w.Len() != len(p) {
			t.Fatalf("V5: at %d Len is %d, not %d", now+1, w.Len(), len(p))
		}
	}
}

// change does one thing, of whatever kind, to a wheel and a plain one.
func change(t *testing.T, s *source, w *wheel.Wheel, p *plain, ids int) {
	t.Helper()
	id := s.below(ids) - ids/4
	switch s.below(12) {
	case 0, 1:
		addBoth(t, w, p, id, one(s, edgeAfters))
	case 2, 3:
		addBoth(t, w, p, id, 1+s.below(20))
	case 4:
		addBoth(t, w, p, id, 1+s.below(300))
	case 5:
		addBoth(t, w, p, id, 1+s.below(4095))
	case 6:
		addBoth(t, w, p, id, one(s, wrongAfters))
	case 7:
		cancelBoth(t, w, p, id)
	case 8:
		if len(p.in) > 0 {
			cancelBoth(t, w, p, one(s, p.in).id)
		}
	case 9:
		for range s.below(40) {
			tickBoth(t, w, p)
		}
	default:
		tickBoth(t, w, p)
	}
}

// Long mixtures of Add, Cancel and Tick, of few and of many ids.
func TestMixtures(t *testing.T) {
	for seed, ids := range []int{1, 2, 5, 20, 100, 500} {
		s := source(seed)
		w, p := made(t), &plain{}
		for n := range 12000 {
			change(t, &s, w, p, ids)
			if n%10 == 0 {
				expectSays(t, w, p.now, len(p.in), p.next())
				left, ok := p.left(n % ids)
				expectLeft(t, w, n%ids, left, ok)
			}
			if n%500 == 0 {
				expectAs(t, w, p)
			}
		}
		endBoth(t, w, p)
	}
}

// Mixtures in which a wheel is full most of the time.
func TestFullMixtures(t *testing.T) {
	s := source(99)
	w, p := made(t), &plain{}
	full := 0
	for range 12 {
		for range 1400 {
			addBoth(t, w, p, s.below(100000), 1+s.below(1+s.below(4095)))
		}
		if len(p.in) == 1000 {
			full++
		}
		expectAs(t, w, p)
		for range s.below(300) {
			change(t, &s, w, p, 100000)
		}
		expectAs(t, w, p)
	}
	if full == 0 {
		t.Fatal("the wheel is never full")
	}
	endBoth(t, w, p)
}

// A timer is either cancelled or comes, once.
func TestOnce(t *testing.T) {
	s := source(5)
	w := made(t)
	due, ended := map[int]int{}, 0
	const count = 8000
	for id := range count {
		after := one(&s, []int{1 + s.below(15), 1 + s.below(255), 1 + s.below(900)})
		expectAdd(t, w, id, after, api.OK)
		due[id] = w.Now() + after
		if other := s.below(id + 1); s.below(3) == 0 {
			_, waits := due[other]
			expectCancel(t, w, other, waits)
			if waits {
				delete(due, other)
				ended++
			}
		}
		for range 1 + s.below(3) {
			ended += take(t, w, due)
		}
	}
	for range 1000 {
		ended += take(t, w, due)
	}
	if ended != count || len(due) != 0 || w.Len() != 0 {
		t.Fatalf("V5: %d of %d have ended, %d are left", ended, count, w.Len())
	}
}

// take lets a tick pass, and removes from due what comes; it tells how many those are.
func take(t *testing.T, w *wheel.Wheel, due map[int]int) int {
	t.Helper()
	l := w.Tick()
	for _, id := range l {
		if at, waits := due[id]; !waits || at != w.Now() {
			t.Fatalf("V5: %d comes at %d, not at %d (%t)", id, w.Now(), at, waits)
		}
		delete(due, id)
	}
	return len(l)
}

// All short mixtures of a few calls, begun shortly ahead of the times at which slots come round.
func TestShortMixtures(t *testing.T) {
	const kinds, length = 7, 4
	for _, begin := range []int{0, 14, 15, 254} {
		for code := range kinds * kinds * kinds * kinds {
			w, p := madeAt(t, begin), &plain{now: begin}
			for rest, n := code, 0; n < length; n++ {
				shortStep(t, w, p, rest%kinds)
				rest /= kinds
				expectSays(t, w, p.now, len(p.in), p.next())
			}
			for range 20 {
				tickBoth(t, w, p)
				expectSays(t, w, p.now, len(p.in), p.next())
			}
		}
	}
}

func shortStep(t *testing.T, w *wheel.Wheel, p *plain, kind int) {
	t.Helper()
	switch kind {
	case 0:
		addBoth(t, w, p, 1, 1)
	case 1:
		addBoth(t, w, p, 1, 17)
	case 2:
		addBoth(t, w, p, 2, 2)
	case 3:
		addBoth(t, w, p, 2, 16)
	case 4:
		cancelBoth(t, w, p, 1)
	case 5:
		cancelBoth(t, w, p, 2)
	default:
		tickBoth(t, w, p)
	}
}

// No call panics, and each ends, whatever it is given.
func TestNothingPanics(t *testing.T) {
	numbers := slices.Concat(farIds, wrongAfters, edgeAfters)
	for _, begin := range []int{0, 15, 255, 4095} {
		w, p := madeAt(t, begin), &plain{now: begin}
		for i, id := range numbers {
			for _, after := range numbers {
				addBoth(t, w, p, id, after)
				n, ok := p.left(id)
				expectLeft(t, w, id, n, ok)
				if i%3 == 0 {
					cancelBoth(t, w, p, id)
				}
			}
			tickBoth(t, w, p)
		}
		endBoth(t, w, p)
	}
}
