package epoch_test

import (
	"runtime"
	"slices"
	"testing"

	"crossway/epoch"
)

// spoil writes into a list, and into its spare capacity.
func spoil(l []int) {
	l = l[:cap(l)]
	for i := range l {
		l[i] = -777
	}
	_ = append(l[:0], make([]int, 100)...)
}

// TestWaitingIsNew: writing into what Waiting returned changes nothing that is told later.
func TestWaitingIsNew(t *testing.T) {
	e := several(t)
	for range 3 {
		one, other := e.Waiting(), e.Waiting()
		spoil(one)
		if !slices.Equal(other, []int{10, 11, 12, 13, 14}) {
			t.Fatalf("another result of Waiting is %v", other)
		}
		_ = append(other, 1, 2, 3)
		expectVersions(t, e, 15, 10, 11, 12, 13, 14)
		expectSeen(t, e, 2, 15)
		expectSeen(t, e, 3, 10)
	}
	l := e.Waiting()
	expectPublish(t, e, 16)
	expectLeave(t, e, 3, 10, 11)
	spoil(l)
	expectVersions(t, e, 16, 12, 13, 14, 15)
	expectLeave(t, e, 1)
	expectLeave(t, e, 4, 12, 13, 14)
	expectSeen(t, e, 2, 15)
}

// TestWaitingStays: what Waiting returned doesn't follow the epoch.
func TestWaitingStays(t *testing.T) {
	e := several(t)
	l := e.Waiting()
	for v := 16; v < 300; v++ {
		expectPublish(t, e, v)
	}
	expectLeave(t, e, 3, 10, 11)
	if !slices.Equal(l, []int{10, 11, 12, 13, 14}) {
		t.Errorf("it has become %v", l)
	}
}

// TestLeaveIsNew: the same of what Leave returned.
func TestLeaveIsNew(t *testing.T) {
	for range 2 {
		e := several(t)
		l, _ := e.Leave(3)
		_ = append(l, -1, -2, -3, -4, -5)
		spoil(l)
		expectVersions(t, e, 15, 12, 13, 14)
		expectSeen(t, e, 1, 12)
		expectPublish(t, e, 16)
		m, _ := e.Leave(1)
		spoil(m)
		n, _ := e.Leave(4)
		if !slices.Equal(n, []int{12, 13, 14}) {
			t.Fatalf("Leave returns %v", n)
		}
		spoil(l)
		if !slices.Equal(n, []int{12, 13, 14}) {
			t.Fatalf("what Leave returned has become %v", n)
		}
		expectPublish(t, e, 17)
		spoil(n)
		expectVersions(t, e, 17, 15, 16)
		expectLeave(t, e, 2, 15, 16)
	}
}

// TestPublishIsNew: the same of what Publish returned.
func TestPublishIsNew(t *testing.T) {
	e := made(t, 2, 0)
	var before []int
	for v := 1; v < 50; v++ {
		l := e.Publish(v)
		if !slices.Equal(l, []int{v - 1}) {
			t.Fatalf("Publish(%d) returns %v", v, l)
		}
		spoil(before)
		if !slices.Equal(l, []int{v - 1}) {
			t.Fatalf("what Publish(%d) returned has become %v", v, l)
		}
		_ = append(l, -1, -2)
		expectVersions(t, e, v)
		expectEnter(t, e, 1, v)
		spoil(l)
		expectSeen(t, e, 1, v)
		expectLeave(t, e, 1)
		before = l
	}
}

// TestEmptyIsNew: nor does an empty list have room in the epoch.
func TestEmptyIsNew(t *testing.T) {
	e := made(t, 2, 10)
	spoil(e.Waiting())
	expectVersions(t, e, 10)
	expectEnter(t, e, 1, 10)
	spoil(e.Publish(11))
	expectVersions(t, e, 11, 10)
	expectEnter(t, e, 2, 11)
	l, _ := e.Leave(2)
	spoil(l)
	expectVersions(t, e, 11, 10)
	l, _ = e.Leave(2)
	spoil(l)
	expectVersions(t, e, 11, 10)
	expectLeave(t, e, 1, 10)
	spoil(e.Waiting())
	expectVersions(t, e, 11)
}

// TestIndependent: several epochs in turn, each as if it were alone.
func TestIndependent(t *testing.T) {
	s := source(5)
	const n = 6
	var es [n]*epoch.Epoch
	var ps [n]*plain
	for i := range n {
		es[i], ps[i] = made(t, 1+i, i), newPlain(1+i, i)
	}
	for range 3000 {
		i := s.below(n)
		expectBoth(t, es[i], ps[i], s.chance(1+i, 1000))
	}
	one, other := several(t), several(t)
	expectLeave(t, one, 3, 10, 11)
	spoil(one.Waiting())
	expectPublish(t, one, 20)
	expectVersions(t, other, 15, 10, 11, 12, 13, 14)
	expectVersions(t, one, 20, 12, 13, 14, 15)
}

// heap is how many bytes are in use.
func heap() int {
	runtime.GC()
	var m runtime.MemStats
	runtime.ReadMemStats(&m)
	return int(m.HeapAlloc)
}

// TestGivenBackIsNotKept: an epoch's memory doesn't hold what was given back, neither when
// all of it leaves at once, nor when some still wait.
func TestGivenBackIsNotKept(t *testing.T) {
	const n = 1 << 21
	e := made(t, 2, 0)
	before := heap()
	expectEnter(t, e, 1, 0)
	for v := 1; v < n; v++ {
		e.Publish(v)
	}
	expectEnter(t, e, 2, n-1)
	expectPublish(t, e, n)
	if l, _ := e.Leave(1); len(l) != n-1 {
		t.Fatalf("%d versions were given back, not %d", len(l), n-1)
	}
	expectVersions(t, e, n, n-1)
	if kept := heap() - before; kept > n {
		t.Errorf("%d bytes are kept for 2 versions", kept)
	}
	runtime.KeepAlive(e)
}
