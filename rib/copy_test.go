package rib_test

import (
	"runtime"
	"slices"
	"testing"

	"crossway/api"
	"crossway/rib"
)

// copied is a copy of a rib, which tells the same.
func copied(t *testing.T, r *rib.Rib) *rib.Rib {
	t.Helper()
	c := r.Copy()
	if c == nil || c == r {
		t.Fatal("Q3: Copy returns no new rib")
	}
	expectTells(t, c, tells(r))
	return c
}

func TestCopyOfEmpty(t *testing.T) {
	r := newRib(t)
	c := copied(t, r)
	d := copied(t, c)
	x, y := fourWays[0], fourWays[1]
	expectPut(t, c, ten, x)
	expectPaths(t, r, ten)
	expectPut(t, r, ten, y)
	expectPut(t, r, pre("::/0"), x)
	expectPaths(t, c, ten, x)
	expectPrefixes(t, c, "10.0.0.0/8")
	expectPrefixes(t, r, "10.0.0.0/8", "::/0")
	expectNoDrop(t, c, ten, y)
	expectTells(t, d, tells(newRib(t)))
}

// fullest is a rib with as many prefixes and paths as there may be.
func fullest(t *testing.T) *rib.Rib {
	t.Helper()
	r := ninetieth(t)
	for i, p := range ninety() {
		expectPut(t, r, p, api.Path{Proto: 2, Metric: i, Port: 2})
		expectPut(t, r, p, api.Path{Proto: i % 2, Metric: i, Port: 3})
		expectPut(t, r, p, api.Path{Proto: 4, Away: true})
	}
	expectCount(t, r, 360)
	return r
}

// TestCopyOfFull: the copy of a full rib is full, and each change of one of them leaves the
// other one as it was.
func TestCopyOfFull(t *testing.T) {
	for _, swap := range []bool{false, true} {
		r := fullest(t)
		before := tells(r)
		c := copied(t, r)
		if swap {
			r, c = c, r
		}
		expectNoPut(t, c, pre("99.0.0.0/8"), api.Path{Port: 1}, api.ErrRibFull)
		for i, p := range ninety() {
			expectNoPut(t, c, p, api.Path{Proto: 3, Port: 8}, api.ErrRibFull)
			l := c.Paths(p)
			for _, k := range []int{1, 3, 0} {
				expectDrop(t, c, p, l[k])
			}
			expectPut(t, c, p, api.Path{Proto: 3, Metric: i, Port: 8})
			other := l[2]
			other.Metric = 60000 + i
			expectPut(t, c, p, other)
			if c.Count() != 360-2*(i+1) {
				t.Fatalf("Q3: the copy has %d paths", c.Count())
			}
			if i%10 == 9 {
				expectTells(t, r, before)
			}
		}
		expectFlush(t, c, 3, 90)
		expectFlush(t, c, 2, 90)
		expectPrefixes(t, c)
		expectTells(t, r, before)
		expectFlush(t, r, 4, 90)
	}
}

// TestCopyHasRoom: both add to what they had in common, also in turn.
func TestCopyHasRoom(t *testing.T) {
	for n := range 4 {
		r := newRib(t)
		for _, x := range fourWays[:n] {
			expectPut(t, r, ten, x)
		}
		c := copied(t, r)
		d := copied(t, r)
		own := func(port int) api.Path { return api.Path{Proto: 4, Metric: 5, Port: port} }
		expectPut(t, r, ten, own(3))
		expectPut(t, c, ten, own(4))
		expectPut(t, d, ten, own(5))
		common := slices.Clip(fourWays[:n])
		expectPaths(t, r, ten, append(common, own(3))...)
		expectPaths(t, c, ten, append(common, own(4))...)
		expectPaths(t, d, ten, append(common, own(5))...)
		expectPut(t, c, ten, api.Path{Proto: 4, Port: 4})
		expectPaths(t, r, ten, append(common, own(3))...)
		expectPaths(t, c, ten, append(common, api.Path{Proto: 4, Port: 4})...)
		expectPut(t, d, pre("11.0.0.0/8"), own(1))
		expectCount(t, r, n+1)
		expectCount(t, d, n+2)
	}
}

// TestCopyOfCopy: a copy is a rib like any other.
func TestCopyOfCopy(t *testing.T) {
	r := fullest(t)
	before := tells(r)
	c := r
	for range 20 {
		c = copied(t, c)
	}
	expectFlush(t, r, 4, 90)
	expectTells(t, c, before)
}

// spoilPaths and spoilPrefixes write into a list, and into its spare capacity.
func spoilPaths(l []api.Path) {
	l = l[:cap(l)]
	for i := range l {
		l[i] = api.Path{Proto: 1, Metric: 999, Port: 9}
	}
	_ = append(l[:0], make([]api.Path, 100)...)
}

func spoilPrefixes(l []api.Prefix) {
	l = l[:cap(l)]
	for i := range l {
		l[i] = pre("99.0.0.0/8")
	}
	_ = append(l[:0], make([]api.Prefix, 100)...)
}

// spoilAll writes into all that a rib returns.
func spoilAll(r *rib.Rib) {
	for _, p := range probePrefixes() {
		_ = append(r.Paths(p), api.Path{Port: 9})
		spoilPaths(r.Paths(p))
	}
	for _, a := range probeAddrs() {
		_ = append(r.Over(a), ten)
		spoilPrefixes(r.Over(a))
	}
	_ = append(r.Prefixes(), ten)
	spoilPrefixes(r.Prefixes())
}

// TestResultsAreNew: writing into what was returned, and appending to it, changes nothing
// that is told later, nor another result.
func TestResultsAreNew(t *testing.T) {
	r := newRib(t)
	spoilAll(r)
	for n, p := range []api.Prefix{pre("10.0.0.0/8"), pre("0.0.0.0/0"), pre("10.0.0.0/24"), pre("::/0"), pre("2001:db8::/32")} {
		var want []api.Path
		for i := range 4 {
			before := tells(r)
			paths, prefixes, over := r.Paths(ten), r.Prefixes(), r.Over(at("10.0.0.1"))
			first, second, third := slices.Clone(paths), slices.Clone(prefixes), slices.Clone(over)
			spoilAll(r)
			expectTells(t, r, before)
			want = slices.Insert(want, 0, api.Path{Proto: 4 - i, Metric: n, Port: 1})
			expectPut(t, r, p, want[0])
			spoilAll(r)
			if !slices.Equal(paths, first) || !slices.Equal(prefixes, second) || !slices.Equal(over, third) {
				t.Fatalf("R3: other results have become %v, %v and %v", paths, prefixes, over)
			}
			expectPaths(t, r, p, want...)
			expectCount(t, r, 4*n+i+1)
		}
	}
}

// TestResultsStay: what was returned does not follow the rib.
func TestResultsStay(t *testing.T) {
	r := fourth(t)
	expectPut(t, r, pre("10.0.0.0/24"), fourWays[0])
	c := r.Copy()
	paths, prefixes, over := r.Paths(ten), r.Prefixes(), r.Over(at("10.0.0.1"))
	for _, x := range []int{1, 0} {
		expectDrop(t, r, ten, fourWays[x])
	}
	expectPut(t, r, ten, api.Path{Proto: 2, Port: 7})
	expectFlush(t, r, 0, 1)
	expectPut(t, r, pre("9.0.0.0/8"), fourWays[0])
	if !slices.Equal(paths, fourWays) || !slices.Equal(texts(prefixes), []string{"10.0.0.0/8", "10.0.0.0/24"}) || !slices.Equal(texts(over), []string{"10.0.0.0/24", "10.0.0.0/8"}) {
		t.Errorf("R3: they have become %v, %v and %v", paths, prefixes, over)
	}
	spoilPaths(paths)
	spoilPrefixes(prefixes)
	spoilPrefixes(over)
	expectPaths(t, c, ten, fourWays...)
	expectPaths(t, r, ten, fourWays[2], api.Path{Proto: 2, Port: 7}, fourWays[3])
}

// TestIndependent: two ribs that were made separately.
func TestIndependent(t *testing.T) {
	r, o := newRib(t), newRib(t)
	before := tells(o)
	expectPut(t, r, ten, fourWays[0])
	expectPut(t, r, pre("::/0"), fourWays[0])
	expectTells(t, o, before)
	expectPut(t, o, ten, fourWays[1])
	expectPaths(t, r, ten, fourWays[0])
	expectFlush(t, r, 1, 0)
	expectFlush(t, r, 0, 2)
	expectPaths(t, o, ten, fourWays[1])
	// One that is full leaves room in the other one.
	f := ninetieth(t)
	expectNoPut(t, f, pre("99.0.0.0/8"), fourWays[0], api.ErrRibFull)
	expectPut(t, o, pre("99.0.0.0/8"), fourWays[0])
}

// heap is how many bytes are in use.
func heap() int {
	runtime.GC()
	var m runtime.MemStats
	runtime.ReadMemStats(&m)
	return int(m.HeapAlloc)
}

// TestGoneIsNotKept: of paths that were dropped, and of prefixes that have none any more,
// nothing is kept.
func TestGoneIsNotKept(t *testing.T) {
	r := newRib(t)
	before := heap()
	for i := range uint64(200000) {
		p := api.Prefix{Addr: api.Addr{Lo: i << 8}, Bits: 24}
		expectPut(t, r, p, fourWays[3])
		expectPut(t, r, p, fourWays[0])
		expectDrop(t, r, p, fourWays[3])
		if i%2 == 0 {
			expectDrop(t, r, p, fourWays[0])
		} else {
			r.Flush(0)
		}
	}
	if kept := heap() - before; kept > 1<<20 {
		t.Errorf("%d bytes are kept of paths that are gone", kept)
	}
	expectCount(t, r, 0)
	expectPrefixes(t, r)
}
