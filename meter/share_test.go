package meter_test

import (
	"math"
	"math/big"
	"testing"

	"crossway/meter"
)

// edgeParts are whole numbers up to 2^53.
var edgeParts = []int{0, 1, 2, 3, 5, 7, 10, 49, 100, 127, 255, 1 << 16, 1<<16 + 1, 1<<24 - 1, 1 << 24, 1<<24 + 1, 1<<31 - 1, 1 << 31, 1 << 32, 1<<47 - 1, 1<<52 - 1, 1 << 52, 1<<52 + 1, 1<<53 - 2, 1<<53 - 1, 1 << 53}

// share is the quotient of two whole numbers in another way: as a fraction that is rounded once.
func share(part, whole int) float64 {
	if whole == 0 {
		return 0
	}
	n, _ := big.NewRat(int64(part), int64(whole)).Float64()
	return n
}

// expectParts holds the shares of two pairs of whole numbers.
func expectParts(t *testing.T, count, counts, bytes, allBytes int) {
	t.Helper()
	some, all := both{count, bytes}, both{counts, allBytes}
	expectShare(t, some.number(), all.number(), complex(share(count, counts), share(bytes, allBytes)))
}

func TestShareSimple(t *testing.T) {
	expectShare(t, 2+30i, 8+120i, 0.25+0.25i)
	expectShare(t, 1+2i, 3+3i, complex(1.0/3, 2.0/3))
	expectShare(t, 1+3i, 10+10i, 0.1+0.3i)
	expectShare(t, 8+120i, 2+30i, 4+4i)
	expectShare(t, 5+7i, 5+7i, 1+1i)
	expectShare(t, 1+0i, 2+5i, 0.5)
	expectShare(t, 0+5i, 7+2i, 2.5i)
	expectShare(t, 6+1i, 1+1000000i, 6+0.000001i)
}

// A part of all that is 0 gives 0, and has no effect on the other part.
func TestShareNothing(t *testing.T) {
	expectShare(t, 0, 0, 0)
	expectShare(t, 1, 0, 0)
	expectShare(t, 1i, 0, 0)
	expectShare(t, 3+4i, 0, 0)
	expectShare(t, 0, 3+4i, 0)
	expectShare(t, 1+1i, 4+0i, 0.25)
	expectShare(t, 1+1i, 0+4i, 0.25i)
	expectShare(t, 0+1i, 0+4i, 0.25i)
	expectShare(t, 1+0i, 4+0i, 0.25)
	expectShare(t, 1<<53, 1i, 0)
	expectShare(t, complex(0, 1<<53), 1, 0)
	zero := math.Copysign(0, -1)
	expectShare(t, 1+1i, complex(zero, zero), 0)
	expectShare(t, 1+1i, complex(4, zero), 0.25)
}

func TestShareSmall(t *testing.T) {
	for count := range 40 {
		for counts := range 40 {
			expectParts(t, count, counts, counts*3, count*7)
			expectParts(t, count, counts, 39-counts, 39-count)
		}
	}
}

func TestShareEdges(t *testing.T) {
	for i, count := range edgeParts {
		for j, counts := range edgeParts {
			for _, turn := range []int{1, 11, 19} {
				bytes := edgeParts[(i+turn)%len(edgeParts)]
				allBytes := edgeParts[(j+3*turn)%len(edgeParts)]
				expectParts(t, count, counts, bytes, allBytes)
			}
		}
	}
}

// Numbers of whatever length, the real and the imaginary ones unlike.
func TestShareMixed(t *testing.T) {
	s := source(6)
	part := func() int { return int(s.next() >> 11 >> s.below(53)) }
	for range 60000 {
		expectParts(t, part(), part(), part(), part())
	}
}

// Shares of what a meter tells.
func TestShareOfMeter(t *testing.T) {
	s := source(7)
	m, p := counted(t, &s, 300)
	for kind := range 16 {
		x, all := p[kind], p.all()
		want := complex(share(x.count, all.count), share(x.bytes, all.bytes))
		expectShare(t, m.Told(kind), m.All(), want)
	}
}

// Of parts that are no whole numbers only this is promised, that the call ends.
func TestShareWrong(t *testing.T) {
	parts := []float64{math.NaN(), math.Inf(1), math.Inf(-1), math.Copysign(0, -1), 0, -1, 0.5, -0.5, 1, math.MaxFloat64, -math.MaxFloat64, math.SmallestNonzeroFloat64, -math.SmallestNonzeroFloat64, 1<<53 + 2, 1e300, -1e300}
	for _, a := range parts {
		for _, b := range parts {
			for _, c := range parts {
				for _, d := range parts {
					meter.Share(complex(a, b), complex(c, d))
				}
			}
		}
	}
	expectShare(t, 2+30i, 8+120i, 0.25+0.25i)
}
