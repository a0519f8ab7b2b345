package epoch_test

import (
	"math"
	"slices"
	"testing"

	"crossway/api"
	"crossway/epoch"
)

// someVersions are first versions, and later ones.
var someVersions = []int{math.MinInt, math.MinInt + 1, math.MinInt32, -2, -1, 0, 1, 2, 5, math.MaxInt32, 1 << 32, math.MaxInt - 1, math.MaxInt}

// noReaders are numbers of no reader of an epoch with n of them.
func noReaders(n int) []int {
	return []int{math.MinInt, math.MinInt + 1, math.MinInt + n, math.MinInt32, -1 << 32, -n - 1, -n, -17, -16, -2, -1, 0, n + 1, n + 2, n + 17, 32, 64, 256 + n, 1<<16 + n, math.MaxInt32, 1 << 32, 1<<32 + n, 1 << 62, math.MaxInt - 1, math.MaxInt}
}

// made is a new epoch.
func made(t *testing.T, readers, first int) *epoch.Epoch {
	t.Helper()
	e, f := epoch.New(readers, first)
	if f != api.OK || e == nil {
		t.Fatalf("New(%d, %d): %d", readers, first, f)
	}
	return e
}

func expectPublish(t *testing.T, e *epoch.Epoch, v int, want ...int) {
	t.Helper()
	if l := e.Publish(v); !slices.Equal(l, want) {
		t.Fatalf("Publish(%d) returns %v, not %v", v, l, want)
	}
}

func expectEnter(t *testing.T, e *epoch.Epoch, r, want int) {
	t.Helper()
	if v, f := e.Enter(r); v != want || f != api.OK {
		t.Fatalf("Enter(%d) is %d %d, not %d", r, v, f, want)
	}
}

func expectNoEnter(t *testing.T, e *epoch.Epoch, r int) {
	t.Helper()
	if v, f := e.Enter(r); v != 0 || f != api.ErrEpochNone {
		t.Fatalf("Enter(%d) is %d %d, not an error", r, v, f)
	}
}

func expectLeave(t *testing.T, e *epoch.Epoch, r int, want ...int) {
	t.Helper()
	if l, f := e.Leave(r); !slices.Equal(l, want) || f != api.OK {
		t.Fatalf("Leave(%d) is %v %d, not %v", r, l, f, want)
	}
}

func expectNoLeave(t *testing.T, e *epoch.Epoch, r int) {
	t.Helper()
	if l, f := e.Leave(r); len(l) != 0 || f != api.ErrEpochNone {
		t.Fatalf("Leave(%d) is %v %d, not an error", r, l, f)
	}
}

func expectSeen(t *testing.T, e *epoch.Epoch, r, want int) {
	t.Helper()
	if v, ok := e.Seen(r); v != want || !ok {
		t.Fatalf("Seen(%d) is %d %t, not %d", r, v, ok, want)
	}
}

func expectNotSeen(t *testing.T, e *epoch.Epoch, r int) {
	t.Helper()
	if v, ok := e.Seen(r); v != 0 || ok {
		t.Fatalf("Seen(%d) is %d %t, not 0 false", r, v, ok)
	}
}

func expectVersions(t *testing.T, e *epoch.Epoch, current int, waiting ...int) {
	t.Helper()
	if v := e.Current(); v != current {
		t.Fatalf("Current is %d, not %d", v, current)
	}
	if l := e.Waiting(); !slices.Equal(l, waiting) {
		t.Fatalf("Waiting is %v, not %v", l, waiting)
	}
}

// TestExample is the chapter's.
func TestExample(t *testing.T) {
	e := made(t, 2, 5)
	expectEnter(t, e, 1, 5)
	expectPublish(t, e, 6)
	expectEnter(t, e, 2, 6)
	expectPublish(t, e, 7)
	expectVersions(t, e, 7, 5, 6)
	expectSeen(t, e, 1, 5)
	expectSeen(t, e, 2, 6)
	expectLeave(t, e, 1, 5)
	expectLeave(t, e, 2, 6)
	expectPublish(t, e, 8, 7)
	expectNotSeen(t, e, 1)
	expectVersions(t, e, 8)
}

func TestNew(t *testing.T) {
	for readers := 1; readers <= api.MaxReaders; readers++ {
		for _, first := range someVersions {
			e := made(t, readers, first)
			expectVersions(t, e, first)
			for r := 1; r <= readers; r++ {
				expectNotSeen(t, e, r)
				expectNoLeave(t, e, r)
				expectEnter(t, e, r, first)
				expectSeen(t, e, r, first)
			}
			for _, r := range noReaders(readers) {
				expectNoEnter(t, e, r)
				expectNoLeave(t, e, r)
				expectNotSeen(t, e, r)
			}
			expectVersions(t, e, first)
		}
	}
}

func TestNewOfNoNumber(t *testing.T) {
	for _, readers := range []int{math.MinInt, math.MinInt + 1, math.MinInt32, -256, -17, -16, -2, -1, 0, 17, 18, 32, 33, 64, 256, 257, 1 << 16, math.MaxInt32, 1 << 32, 1<<32 + 1, 1 << 62, math.MaxInt - 1, math.MaxInt} {
		for _, first := range someVersions {
			if e, f := epoch.New(readers, first); e != nil || f != api.ErrArg {
				t.Errorf("New(%d, %d): %v %d", readers, first, e != nil, f)
			}
		}
	}
}
