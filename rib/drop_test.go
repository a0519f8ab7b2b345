package rib_test

import (
	"math"
	"slices"
	"testing"

	"crossway/api"
)

// TestDrop: the first, a middle and the last path, and the only one.
func TestDrop(t *testing.T) {
	permutations(4, func(order []int) {
		r := fourth(t)
		left := slices.Clone(fourWays)
		for _, i := range order {
			x := fourWays[i]
			expectDrop(t, r, ten, x)
			left = slices.DeleteFunc(left, func(y api.Path) bool { return y == x })
			expectPaths(t, r, ten, left...)
			expectCount(t, r, len(left))
			// It was dropped.
			expectNoDrop(t, r, ten, x)
		}
		expectPrefixes(t, r)
	})
}

// TestDropMetric: the Metric is ignored, whatever it is.
func TestDropMetric(t *testing.T) {
	for _, metric := range []int{0, 1, 6, 7, 8, 65535, 65536, -1, math.MinInt, math.MaxInt} {
		for i, x := range fourWays {
			r := fourth(t)
			x.Metric = metric
			expectDrop(t, r, ten, x)
			expectPaths(t, r, ten, slices.Delete(slices.Clone(fourWays), i, i+1)...)
		}
	}
}

// TestDropOtherPrefix: only the paths to the prefix itself count, not those to one that
// covers it or that it covers, nor to what is no prefix.
func TestDropOtherPrefix(t *testing.T) {
	r := fourth(t)
	for _, p := range append(slices.Clone(noPrefixes), pre("10.0.0.0/9"), pre("10.0.0.0/7"), pre("10.0.0.0/32"), pre("0.0.0.0/0"), pre("::a00:0/104"), pre("::/8"), pre("a00::/8")) {
		for _, x := range fourWays {
			expectNoDrop(t, r, p, x)
		}
	}
	nine := pre("10.0.0.0/9")
	expectPut(t, r, nine, fourWays[1])
	expectDrop(t, r, ten, fourWays[1])
	expectPaths(t, r, nine, fourWays[1])
	expectNoDrop(t, r, ten, fourWays[1])
	expectPaths(t, r, ten, fourWays[0], fourWays[2], fourWays[3])
}

// TestDropNone: paths that are not the same way as one of the prefix, among them such as no
// prefix has.
func TestDropNone(t *testing.T) {
	r := fourth(t)
	for _, x := range fourWays {
		for _, y := range []api.Path{
			{Proto: x.Proto + 1, Metric: x.Metric, Port: x.Port, Via: x.Via, Away: x.Away}, {Proto: x.Proto - 2, Metric: x.Metric, Port: x.Port, Via: x.Via, Away: x.Away},
			{Proto: x.Proto, Metric: x.Metric, Port: x.Port + 1, Via: x.Via, Away: x.Away}, {Proto: x.Proto, Metric: x.Metric, Port: x.Port - 1, Via: x.Via, Away: x.Away},
			{Proto: x.Proto, Metric: x.Metric, Port: x.Port, Via: api.Addr{Six: true, Hi: x.Via.Hi, Lo: x.Via.Lo}, Away: x.Away}, {Proto: x.Proto, Metric: x.Metric, Port: x.Port, Via: api.Addr{Hi: 1, Lo: x.Via.Lo}, Away: x.Away}, {Proto: x.Proto, Metric: x.Metric, Port: x.Port, Via: api.Addr{Lo: x.Via.Lo + 1}, Away: x.Away},
			{Proto: x.Proto, Metric: x.Metric, Port: x.Port, Via: x.Via, Away: !x.Away},
		} {
			expectNoDrop(t, r, ten, y)
		}
	}
	s := source(3)
	for range 2000 {
		x := s.anyPath()
		if slices.ContainsFunc(fourWays, func(y api.Path) bool { return sameWay(x, y) }) {
			continue
		}
		if e := r.Drop(ten, x); e != api.ErrRibNone {
			t.Fatalf("Q2: Drop(%v) is %d", x, e)
		}
	}
	for _, x := range []api.Path{{}, {Proto: 5, Port: 1}, {Proto: -1}, {Port: 9}, {Proto: math.MaxInt}, {Away: true}} {
		expectNoDrop(t, r, ten, x)
	}
	expectPaths(t, r, ten, fourWays...)
}

// TestFlush: each Proto, one that no path has, and what may be none.
func TestFlush(t *testing.T) {
	for _, proto := range []int{math.MinInt, math.MinInt32, -2, -1, 5, 6, 20, 110, 120, 255, 256, 260, 1 << 32, 1<<32 + 1, math.MaxInt} {
		expectFlush(t, fourth(t), proto, 0)
		expectFlush(t, ninetieth(t), proto, 0)
	}
	for proto, n := range []int{1, 2, 0, 0, 1} {
		r := fourth(t)
		expectFlush(t, r, proto, n)
		expectPaths(t, r, ten, slices.DeleteFunc(slices.Clone(fourWays), func(x api.Path) bool { return x.Proto == proto })...)
		expectFlush(t, r, proto, 0)
	}
	for _, proto := range []int{0, 2, 3, 4} {
		expectFlush(t, ninetieth(t), proto, 0)
	}
	r := ninetieth(t)
	expectFlush(t, r, 1, 90)
	expectPrefixes(t, r)
	expectTells(t, r, tells(newRib(t)))
}

// TestFlushAll: all Protos, one after the other, in each order, of prefixes that have paths
// of one, of several, and of none of them.
func TestFlushAll(t *testing.T) {
	l := ninety()
	// Of 31 numbers of as many bits, none has five that are 1.
	has := func(i, proto int) bool { return i%31>>proto&1 == 1 }
	permutations(5, func(order []int) {
		r, total := newRib(t), 0
		for i, p := range l {
			for proto := range 5 {
				if has(i, proto) {
					expectPut(t, r, p, api.Path{Proto: proto, Metric: i, Port: 1 + i%8})
					total++
				}
			}
		}
		gone := 0
		for turn, proto := range order {
			n := 0
			for i := range l {
				if has(i, proto) {
					n++
				}
			}
			if got := r.Flush(proto); got != n {
				t.Fatalf("Q2: Flush(%d) is %d, not %d", proto, got, n)
			}
			gone += n
			expectCount(t, r, total-gone)
			for i, p := range l {
				var want []api.Path
				for other := range 5 {
					if has(i, other) && !slices.Contains(order[:turn+1], other) {
						want = append(want, api.Path{Proto: other, Metric: i, Port: 1 + i%8})
					}
				}
				expectPaths(t, r, p, want...)
			}
		}
		expectPrefixes(t, r)
		expectCount(t, r, 0)
	})
}
