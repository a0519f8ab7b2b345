package meter_test

import (
	"math"
	"testing"

	"crossway/api"
	"crossway/meter"
)

const most = 1 << 20

// edgeRates are rates and bursts that there may be.
var edgeRates = []int{0, 1, 2, 3, 9, 10, 1000, most/2 - 1, most / 2, most/2 + 1, most - 1, most}

// wrongRates are those that no bucket has.
var wrongRates = []int{math.MinInt, math.MinInt + 1, math.MinInt + 5, math.MinInt32, -1 << 32, -most - 1, -most, -2, -1, most + 1, most + 2, 2 * most, math.MaxInt32, 1 << 32, 1<<32 + 1, 1 << 62, math.MaxInt - 1, math.MaxInt}

// farTakes are more than any bucket has, or less than nothing.
var farTakes = []int{math.MinInt, math.MinInt + 1, math.MinInt32, -1 << 32, -most - 1, -most, -3, -2, -1, most + 1, 2 * most, math.MaxInt32, 1 << 32, 1<<32 + 1, 1 << 62, math.MaxInt - 1, math.MaxInt}

func expectBucketWrong(t *testing.T, rate, burst int) {
	t.Helper()
	if b, e := meter.Bucket(rate, burst); b != nil || e != api.ErrArg {
		t.Fatalf("W3: Bucket(%d, %d) is %v, %d", rate, burst, b, e)
	}
}

func TestBucket(t *testing.T) {
	for _, rate := range edgeRates {
		for _, burst := range edgeRates {
			b := bucket(t, rate, burst)
			expectLevel(t, b, burst)
			expectTicks(t, b, burst, burst)
			expectTake(t, b, burst+1, false)
			expectTake(t, b, burst, true)
			expectLevel(t, b, 0)
			expectTicks(t, b, min(rate, burst), min(2*rate, burst), min(3*rate, burst))
		}
	}
}

func TestBucketWrong(t *testing.T) {
	for _, wrong := range wrongRates {
		for _, right := range edgeRates {
			expectBucketWrong(t, wrong, right)
			expectBucketWrong(t, right, wrong)
		}
		for _, other := range wrongRates {
			expectBucketWrong(t, wrong, other)
		}
	}
}

// takeEdges holds, at a level, which numbers are refused; each leaves the level as it is.
func takeEdges(t *testing.T, b *meter.Tokens, level int) {
	t.Helper()
	for _, n := range farTakes {
		expectTake(t, b, n, false)
		expectLevel(t, b, level)
	}
	expectTake(t, b, level+1, false)
	expectLevel(t, b, level)
	expectTake(t, b, 0, true)
	expectLevel(t, b, level)
}

func TestTake(t *testing.T) {
	for _, burst := range edgeRates {
		b, level := bucket(t, 0, burst), burst
		for level > 0 {
			takeEdges(t, b, level)
			n := (level + 1) / 2
			expectTake(t, b, n, true)
			level -= n
			expectLevel(t, b, level)
		}
		takeEdges(t, b, 0)
		expectTake(t, b, 1, false)
	}
}

// Each number, of a bucket of each level.
func TestTakeSmall(t *testing.T) {
	for level := range 12 {
		for n := -3; n < 15; n++ {
			b := bucket(t, 1, 11)
			expectTake(t, b, 11-level, true)
			expectTake(t, b, n, n >= 0 && n <= level)
			if n >= 0 && n <= level {
				expectLevel(t, b, level-n)
			} else {
				expectLevel(t, b, level)
			}
		}
	}
}

// What is refused is not taken from what comes later either.
func TestTakeRefused(t *testing.T) {
	b := bucket(t, 3, 10)
	expectTake(t, b, 8, true)
	for _, n := range []int{3, 10, -1, -10, math.MinInt, math.MaxInt} {
		expectTake(t, b, n, false)
	}
	expectTicks(t, b, 5, 8, 10, 10)
	expectTake(t, b, 11, false)
	expectTake(t, b, 10, true)
	expectTicks(t, b, 3)
}

// Each rate and burst that are small, from each level on.
func TestTickSmall(t *testing.T) {
	for rate := range 12 {
		for burst := range 12 {
			for level := range burst + 1 {
				b := bucket(t, rate, burst)
				expectTake(t, b, burst-level, true)
				for k := 1; k < 6; k++ {
					expectTicks(t, b, min(level+k*rate, burst))
				}
			}
		}
	}
}

func TestTickEdges(t *testing.T) {
	b := bucket(t, 5, 20)
	expectTake(t, b, 20, true)
	expectTicks(t, b, 5, 10, 15, 20, 20)
	expectTake(t, b, 4, true)
	expectTicks(t, b, 20)
	expectTake(t, b, 5, true)
	expectTicks(t, b, 20)
	expectTake(t, b, 6, true)
	expectTicks(t, b, 19, 20)

	b = bucket(t, 0, 7)
	expectTicks(t, b, 7, 7)
	expectTake(t, b, 5, true)
	expectTicks(t, b, 2, 2)
	expectTake(t, b, 2, true)
	expectTicks(t, b, 0, 0)

	b = bucket(t, 9, 0)
	expectTicks(t, b, 0, 0)
	expectTake(t, b, 0, true)
	expectTake(t, b, 1, false)

	b = bucket(t, most, 3)
	expectTake(t, b, 2, true)
	expectTicks(t, b, 3, 3)
	expectTake(t, b, 3, true)
	expectTicks(t, b, 3)
}
