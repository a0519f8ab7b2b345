package meter_test

import (
	"slices"
	"testing"

	"crossway/api"
	"crossway/meter"
)

// stepOf is a Take of a number, or a Tick (tick).
type stepOf struct {
	tick bool
	n    int
}

// pot is a bucket in another way: its tokens are there one by one.
type pot struct {
	rate, burst int
	tokens      []struct{}
}

func newPot(rate, burst int) *pot { return &pot{rate, burst, make([]struct{}, burst)} }

func (p *pot) take(n int) bool {
	if n < 0 || n > len(p.tokens) {
		return false
	}
	p.tokens = p.tokens[n:]
	return true
}

func (p *pot) tick() {
	for range p.rate {
		if len(p.tokens) == p.burst {
			return
		}
		p.tokens = append(p.tokens, struct{}{})
	}
}

// doBoth does a step to a bucket and to a pot; it tells how many tokens were taken.
func doBoth(t *testing.T, b *meter.Tokens, p *pot, x stepOf) (taken int) {
	t.Helper()
	if x.tick {
		b.Tick()
		p.tick()
	} else {
		ok := p.take(x.n)
		expectTake(t, b, x.n, ok)
		if ok {
			taken = x.n
		}
	}
	expectLevel(t, b, len(p.tokens))
	return taken
}

// someStep is a step of whatever kind, at a level.
func someStep(s *source, level, burst int) stepOf {
	switch s.below(9) {
	case 0, 1, 2:
		return stepOf{tick: true}
	case 3:
		return stepOf{n: level}
	case 4:
		return stepOf{n: level + 1}
	case 5:
		return stepOf{n: one(s, farTakes)}
	case 6:
		return stepOf{n: s.below(burst + 2)}
	default:
		return stepOf{n: s.below(level/4 + 2)}
	}
}

// Of each piece of a sequence, from any place on: at most burst and rate for each tick are taken.
func TestAtMostSoMany(t *testing.T) {
	for seed, c := range [][2]int{{0, 0}, {0, 5}, {5, 0}, {1, 1}, {1, 10}, {2, 3}, {7, 3}, {10, 10}, {9, 100}, {100, 9}, {60, 1000}} {
		s, rate, burst := source(seed), c[0], c[1]
		b, p := bucket(t, rate, burst), newPot(rate, burst)
		over, least := 0, 0 // what was taken beyond rate for each tick, and the least that this ever was
		for range 9000 {
			x := someStep(&s, b.Level(), burst)
			if x.tick {
				over -= rate
			}
			over += doBoth(t, b, p, x)
			if over-least > burst {
				t.Fatalf("W4: of Bucket(%d, %d) %d too many are taken", rate, burst, over-least-burst)
			}
			least = min(least, over)
		}
	}
}

// Each piece of a sequence by itself: its tokens and its ticks are counted anew.
func TestEachPiece(t *testing.T) {
	for seed, c := range [][2]int{{0, 4}, {1, 4}, {3, 4}, {4, 4}, {6, 4}, {40, 300}} {
		s, rate, burst := source(seed+50), c[0], c[1]
		b, p := bucket(t, rate, burst), newPot(rate, burst)
		var steps []stepOf
		for range 500 {
			x := someStep(&s, b.Level(), burst)
			taken := doBoth(t, b, p, x)
			steps = append(steps, stepOf{x.tick, taken})
		}
		for from := range steps {
			taken, ticks := 0, 0
			for _, x := range steps[from:] {
				taken += x.n
				if x.tick {
					ticks++
				}
				if taken > burst+ticks*rate {
					t.Fatalf("W4: of Bucket(%d, %d), from step %d on, %d are taken in %d ticks", rate, burst, from, taken, ticks)
				}
			}
		}
	}
}

// Who takes all that is there gets burst, and rate (at most burst) for each tick, and no more.
func TestAsManyAsMayBe(t *testing.T) {
	for _, rate := range edgeRates {
		for _, burst := range edgeRates {
			b, taken := bucket(t, rate, burst), burst
			expectTake(t, b, burst, true)
			for k := 1; k <= 20; k++ {
				b.Tick()
				n := b.Level()
				expectTake(t, b, n+1, false)
				expectTake(t, b, n, true)
				taken += n
				if taken != burst+k*min(rate, burst) || taken > burst+k*rate {
					t.Fatalf("W4: of Bucket(%d, %d) %d are taken in %d ticks", rate, burst, taken, k)
				}
			}
		}
	}
}

// All short mixtures of a few steps.
func TestShortSteps(t *testing.T) {
	steps := []stepOf{{tick: true}, {n: 1}, {n: 2}, {n: 5}, {n: -1}}
	const length = 5
	for _, c := range [][2]int{{0, 3}, {1, 3}, {2, 3}, {3, 3}, {4, 3}, {1, 0}, {2, 6}} {
		for code := range 5 * 5 * 5 * 5 * 5 {
			b, p := bucket(t, c[0], c[1]), newPot(c[0], c[1])
			for rest, n := code, 0; n < length; n++ {
				doBoth(t, b, p, steps[rest%len(steps)])
				rest /= len(steps)
			}
		}
	}
}

// change does one thing to one of several meters, and to its plain one.
func change(t *testing.T, s *source, meters []*meter.Meter, plains []plain) {
	t.Helper()
	i, j := s.below(len(meters)), s.below(len(meters))
	switch s.below(60) {
	case 0:
		if n := plains[i].all().count + plains[j].all().count; n < 1<<31 {
			meters[i].Merge(meters[j])
			plains[i].merge(plains[j])
		}
	case 1:
		meters[i], plains[i] = made(t), plain{}
	case 2:
		countBoth(t, meters[i], &plains[i], one(s, wrongKinds), s.below(65536))
	case 3:
		countBoth(t, meters[i], &plains[i], s.below(16), one(s, wrongBytes))
	case 4:
		countBoth(t, meters[i], &plains[i], s.below(16), one(s, edgeBytes))
	default:
		countBoth(t, meters[i], &plains[i], s.below(16), s.below(65536))
	}
}

// What is done to one meter is not to be seen in another, unless it is merged.
func TestMetersAreIndependent(t *testing.T) {
	s := source(18)
	meters, plains := []*meter.Meter{made(t), made(t), made(t)}, make([]plain, 3)
	for range 20000 {
		change(t, &s, meters, plains)
		for i, m := range meters {
			expectAll(t, m, plains[i].all().number())
		}
		i := s.below(3)
		expectAs(t, meters[i], &plains[i])
	}
}

// What is done to one bucket is not to be seen in another, of the same numbers or of others.
func TestBucketsAreIndependent(t *testing.T) {
	s := source(19)
	var buckets []*meter.Tokens
	var pots []*pot
	for _, c := range [][2]int{{2, 9}, {2, 9}, {3, 9}, {2, 30}} {
		buckets, pots = append(buckets, bucket(t, c[0], c[1])), append(pots, newPot(c[0], c[1]))
	}
	for range 20000 {
		i := s.below(len(buckets))
		doBoth(t, buckets[i], pots[i], someStep(&s, buckets[i].Level(), pots[i].burst))
		for j, b := range buckets {
			expectLevel(t, b, len(pots[j].tokens))
		}
		expectBucketWrong(t, -1, 9)
	}
}

// No call panics, and each ends, whatever it is given.
func TestNothingPanics(t *testing.T) {
	m, p := made(t), &plain{}
	for _, kind := range slices.Concat(wrongKinds, []int{0, 1, 7, 14, 15}) {
		for _, bytes := range slices.Concat(wrongBytes, edgeBytes) {
			countBoth(t, m, p, kind, bytes)
		}
		expectAs(t, m, p)
	}
	m.Merge(nil)
	expectAs(t, m, p)
	numbers := slices.Concat(wrongRates, edgeRates, farTakes)
	for _, rate := range numbers {
		for _, burst := range numbers {
			b, e := meter.Bucket(rate, burst)
			if (b == nil) == (e == api.OK) {
				t.Fatalf("W3: Bucket(%d, %d) is %v, %d", rate, burst, b, e)
			}
			for _, n := range numbers {
				if b != nil && b.Take(n) {
					b.Tick()
				}
			}
		}
	}
}
