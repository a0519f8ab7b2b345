package meter_test

import (
	"math"
	"math/bits"
	"slices"
	"testing"

	"crossway/api"
	"crossway/meter"
)

func TestNew(t *testing.T) {
	m := made(t)
	expectAs(t, m, &plain{})
	for kind := -300; kind <= 300; kind++ {
		expectTold(t, m, kind, 0)
	}
	expectAll(t, m, 0)
}

// One of each kind, with each number of bytes at an edge, alone in its meter.
func TestCountOne(t *testing.T) {
	for kind := range 16 {
		for _, bytes := range edgeBytes {
			m := made(t)
			expectCount(t, m, kind, bytes, api.OK)
			want := complex(1, float64(bytes))
			expectAll(t, m, want)
			for other := -3; other < 20; other++ {
				if other == kind {
					expectTold(t, m, other, want)
				} else {
					expectTold(t, m, other, 0)
				}
			}
		}
	}
}

// Each number of bytes that there may be, of one kind.
func TestCountAllBytes(t *testing.T) {
	m, p := made(t), &plain{}
	for bytes := range 65536 {
		countBoth(t, m, p, 15, bytes)
		expectTold(t, m, 15, p[15].number())
	}
	expectTold(t, m, 15, complex(65536, 65535*65536/2))
	expectAs(t, m, p)
}

func TestCountSeveral(t *testing.T) {
	m, p := made(t), &plain{}
	for _, bytes := range edgeBytes {
		for kind := range 16 {
			for range kind % 4 {
				countBoth(t, m, p, kind, bytes)
			}
			expectAs(t, m, p)
		}
	}
	for kind := 0; kind < 16; kind += 4 {
		expectTold(t, m, kind, 0)
	}
}

// All is the sum for one kind, for a few and for all of them.
func TestAll(t *testing.T) {
	for kinds := 1; kinds <= 16; kinds++ {
		m, p := made(t), &plain{}
		for n := range 5 * kinds {
			countBoth(t, m, p, n*7%kinds, n*n)
			expectAll(t, m, p.all().number())
		}
		expectAs(t, m, p)
	}
}

// A count without bytes is a count, and bytes are not taken for counts.
func TestCountParts(t *testing.T) {
	m := made(t)
	for range 1000 {
		expectCount(t, m, 5, 0, api.OK)
	}
	expectTold(t, m, 5, 1000)
	expectCount(t, m, 6, 1000, api.OK)
	expectTold(t, m, 6, 1+1000i)
	expectAll(t, m, 1001+1000i)
}

// What is refused changes nothing that is told later, at a new meter and at one that has counted.
func TestCountWrong(t *testing.T) {
	s := source(3)
	for _, count := range []int{0, 1, 40} {
		m, p := counted(t, &s, count)
		for _, kind := range wrongKinds {
			for _, bytes := range slices.Concat(edgeBytes, wrongBytes) {
				expectCount(t, m, kind, bytes, api.ErrArg)
			}
			expectAs(t, m, p)
		}
		for kind := range 16 {
			for _, bytes := range wrongBytes {
				expectCount(t, m, kind, bytes, api.ErrArg)
				expectTold(t, m, kind, p[kind].number())
			}
		}
		expectAs(t, m, p)
		countBoth(t, m, p, 15, 65535)
		expectAs(t, m, p)
	}
}

func TestMerge(t *testing.T) {
	s := source(4)
	for _, counts := range [][2]int{{0, 0}, {0, 1}, {1, 0}, {1, 1}, {0, 90}, {90, 0}, {70, 80}} {
		m, p := counted(t, &s, counts[0])
		o, q := counted(t, &s, counts[1])
		for range 3 {
			m.Merge(o)
			p.merge(*q)
			expectAs(t, m, p)
			expectAs(t, o, q)
		}
		for range 100 { // from now on each goes its own way
			countBoth(t, m, p, s.below(16), s.below(65536))
			expectAs(t, o, q)
			countBoth(t, o, q, s.below(16), s.below(65536))
			expectAs(t, m, p)
		}
		o.Merge(m)
		q.merge(*p)
		expectAs(t, o, q)
		expectAs(t, m, p)
	}
}

// Each kind is added to the same kind.
func TestMergeKinds(t *testing.T) {
	for kind := range 16 {
		for other := range 16 {
			m, p := made(t), &plain{}
			o, q := made(t), &plain{}
			countBoth(t, m, p, kind, 3)
			countBoth(t, o, q, other, 40)
			m.Merge(o)
			p.merge(*q)
			expectAs(t, m, p)
			expectAs(t, o, q)
		}
	}
}

func TestMergeItself(t *testing.T) {
	s := source(5)
	for _, count := range []int{0, 1, 2, 100} {
		m, p := counted(t, &s, count)
		for range 10 {
			m.Merge(m)
			p.merge(*p)
			expectAs(t, m, p)
			countBoth(t, m, p, s.below(16), s.below(65536))
			expectAs(t, m, p)
		}
	}
}

// doubled is a meter, and a plain one, that have counted so many: the bits of count from the highest one on.
func doubled(t *testing.T, count, kind, bytes int) (*meter.Meter, *plain) {
	t.Helper()
	m, p := made(t), &plain{}
	for bit := bits.Len(uint(count)) - 1; bit >= 0; bit-- {
		m.Merge(m)
		p.merge(*p)
		if count>>bit&1 == 1 {
			countBoth(t, m, p, kind, bytes)
		}
		expectAs(t, m, p)
	}
	return m, p
}

// The numbers are exact as long as fewer than 2^31 are counted.
func TestExactNumbers(t *testing.T) {
	for _, bytes := range []int{0, 1, 65534, 65535} {
		for _, other := range []int{2, 9} {
			m, p := doubled(t, 1<<30, 2, bytes)
			o, q := doubled(t, 1<<30-1, other, 65535)
			m.Merge(o)
			p.merge(*q)
			expectAs(t, m, p)
			expectAs(t, o, q)
			expectAll(t, m, complex(1<<31-1, float64(bytes<<30+65535*(1<<30-1))))
		}
		m, p := doubled(t, 1<<31-2, 7, bytes)
		countBoth(t, m, p, 7, 1)
		expectTold(t, m, 7, complex(1<<31-1, float64(bytes*(1<<31-2)+1)))
		expectAs(t, m, p)
	}
}

// Beyond the numbers that are exact each call still ends.
func TestCountBeyond(t *testing.T) {
	m := made(t)
	expectCount(t, m, 2, 65535, api.OK)
	for range 1200 {
		m.Merge(m)
	}
	expectCount(t, m, 3, 1, api.OK)
	expectTold(t, m, 3, 1+1i)
	if n := m.All(); math.IsNaN(real(n)) {
		t.Fatalf("W1: All is %v", n)
	}
}
