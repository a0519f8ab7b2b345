package epoch_test

import (
	"slices"
	"testing"

	"crossway/epoch"
)

// TestPublishAllOut: with no reader in, what is replaced is given back at once.
func TestPublishAllOut(t *testing.T) {
	e := made(t, 3, 10)
	expectPublish(t, e, 11, 10)
	expectPublish(t, e, 12, 11)
	expectEnter(t, e, 2, 12)
	expectLeave(t, e, 2)
	expectVersions(t, e, 12)
	expectPublish(t, e, 13, 12)
	expectVersions(t, e, 13)
}

// TestPublishOneInSinceNewest: the version that a reader sees waits, and so do those behind
// it, but none ahead of it.
func TestPublishOneInSinceNewest(t *testing.T) {
	e := made(t, 3, 10)
	expectPublish(t, e, 11, 10)
	expectEnter(t, e, 3, 11)
	expectVersions(t, e, 11)
	expectPublish(t, e, 12)
	expectVersions(t, e, 12, 11)
	expectSeen(t, e, 3, 11)
	expectLeave(t, e, 3, 11)
	expectVersions(t, e, 12)
}

func TestPublishOneInSinceEarlier(t *testing.T) {
	e := made(t, 3, 10)
	expectEnter(t, e, 1, 10)
	expectPublish(t, e, 11)
	expectPublish(t, e, 12)
	expectVersions(t, e, 12, 10, 11)
	expectPublish(t, e, 13)
	expectVersions(t, e, 13, 10, 11, 12)
	expectSeen(t, e, 1, 10)
	expectLeave(t, e, 1, 10, 11, 12)
	expectVersions(t, e, 13)
	expectPublish(t, e, 14, 13)
}

// several is an epoch with the readers 3, 1, 4 and 2 in since the publications 0, 2, 2
// and 5, of which the versions are 10 to 15.
func several(t *testing.T) *epoch.Epoch {
	t.Helper()
	e := made(t, 5, 10)
	expectEnter(t, e, 3, 10)
	expectPublish(t, e, 11)
	expectPublish(t, e, 12)
	expectEnter(t, e, 1, 12)
	expectEnter(t, e, 4, 12)
	expectPublish(t, e, 13)
	expectPublish(t, e, 14)
	expectPublish(t, e, 15)
	expectEnter(t, e, 2, 15)
	expectVersions(t, e, 15, 10, 11, 12, 13, 14)
	return e
}

// TestLeaveOrder: only the one that is in since the earliest publication makes versions
// wait.
func TestLeaveOrder(t *testing.T) {
	for _, c := range []struct {
		readers [4]int
		back    [4][]int
	}{
		{[4]int{3, 1, 4, 2}, [4][]int{{10, 11}, nil, {12, 13, 14}, nil}},
		{[4]int{3, 4, 1, 2}, [4][]int{{10, 11}, nil, {12, 13, 14}, nil}},
		{[4]int{3, 2, 1, 4}, [4][]int{{10, 11}, nil, nil, {12, 13, 14}}},
		{[4]int{1, 4, 3, 2}, [4][]int{nil, nil, {10, 11, 12, 13, 14}, nil}},
		{[4]int{2, 4, 1, 3}, [4][]int{nil, nil, nil, {10, 11, 12, 13, 14}}},
		{[4]int{4, 3, 2, 1}, [4][]int{nil, {10, 11}, nil, {12, 13, 14}}},
		{[4]int{2, 3, 4, 1}, [4][]int{nil, {10, 11}, nil, {12, 13, 14}}},
	} {
		e, waiting := several(t), []int{10, 11, 12, 13, 14}
		for i, r := range c.readers {
			expectLeave(t, e, r, c.back[i]...)
			waiting = waiting[len(c.back[i]):]
			expectVersions(t, e, 15, waiting...)
			expectNotSeen(t, e, r)
			expectNoLeave(t, e, r)
		}
		expectPublish(t, e, 16, 15)
	}
}

// TestPublishSeveralIn: what waits for one reader doesn't wait for another one.
func TestPublishSeveralIn(t *testing.T) {
	e := several(t)
	expectPublish(t, e, 16)
	expectVersions(t, e, 16, 10, 11, 12, 13, 14, 15)
	expectLeave(t, e, 3, 10, 11)
	expectPublish(t, e, 17)
	expectLeave(t, e, 1)
	expectLeave(t, e, 4, 12, 13, 14)
	expectPublish(t, e, 18)
	expectVersions(t, e, 18, 15, 16, 17)
	expectSeen(t, e, 2, 15)
	expectLeave(t, e, 2, 15, 16, 17)
	expectPublish(t, e, 19, 18)
}

// TestEnterAgain: a reader that has left, and enters again, sees the newest version, and
// no longer the one that it saw.
func TestEnterAgain(t *testing.T) {
	e := made(t, 2, 10)
	expectEnter(t, e, 1, 10)
	expectNoEnter(t, e, 1)
	expectPublish(t, e, 11)
	expectNoEnter(t, e, 1)
	expectSeen(t, e, 1, 10)
	expectEnter(t, e, 2, 11)
	expectLeave(t, e, 1, 10)
	expectEnter(t, e, 1, 11)
	expectSeen(t, e, 1, 11)
	expectPublish(t, e, 12)
	expectLeave(t, e, 2)
	expectVersions(t, e, 12, 11)
	expectEnter(t, e, 2, 12)
	expectLeave(t, e, 1, 11)
	expectLeave(t, e, 2)
	for range 3 {
		expectEnter(t, e, 1, 12)
		expectLeave(t, e, 1)
		expectNoLeave(t, e, 1)
	}
}

// TestSameVersion: publications of one version are as others; each waits, and is given
// back, by itself.
func TestSameVersion(t *testing.T) {
	for _, v := range someVersions {
		e := made(t, 3, v)
		expectPublish(t, e, v, v)
		expectPublish(t, e, v, v)
		expectEnter(t, e, 1, v)
		expectPublish(t, e, v)
		expectPublish(t, e, v)
		expectVersions(t, e, v, v, v)
		expectEnter(t, e, 2, v)
		expectPublish(t, e, v)
		expectVersions(t, e, v, v, v, v)
		expectSeen(t, e, 1, v)
		expectSeen(t, e, 2, v)
		expectLeave(t, e, 1, v, v)
		expectVersions(t, e, v, v)
		expectLeave(t, e, 2, v)
		expectVersions(t, e, v)
	}
}

// TestVersionUsedAgain: a version that was given back, or waits, may be published again.
func TestVersionUsedAgain(t *testing.T) {
	e := made(t, 2, 7)
	expectPublish(t, e, 8, 7)
	expectEnter(t, e, 1, 8)
	expectPublish(t, e, 7)
	expectEnter(t, e, 2, 7)
	expectPublish(t, e, 8)
	expectPublish(t, e, 7)
	expectVersions(t, e, 7, 8, 7, 8)
	expectLeave(t, e, 1, 8)
	expectVersions(t, e, 7, 7, 8)
	expectSeen(t, e, 2, 7)
	expectLeave(t, e, 2, 7, 8)
	expectPublish(t, e, 8, 7)
	expectPublish(t, e, 8, 8)
}

// TestAnyVersions: a version is any number, and what it is changes nothing.
func TestAnyVersions(t *testing.T) {
	e := made(t, 1, someVersions[0])
	expectEnter(t, e, 1, someVersions[0])
	for i, v := range someVersions[1:] {
		expectPublish(t, e, v)
		expectVersions(t, e, v, someVersions[:i+1]...)
		expectSeen(t, e, 1, someVersions[0])
	}
	last := len(someVersions) - 1
	expectLeave(t, e, 1, someVersions[:last]...)
	for i, v := range someVersions {
		expectPublish(t, e, v, someVersions[(last+i)%len(someVersions)])
	}
}

// TestSeen: what a reader sees stays while newer versions are published, and while other
// ones are given back.
func TestSeen(t *testing.T) {
	e := several(t)
	for v := 16; v < 40; v++ {
		for r, seen := range []int{1: 12, 2: 15, 3: 10, 4: 12} {
			if r > 0 {
				expectSeen(t, e, r, seen)
			}
		}
		expectNotSeen(t, e, 5)
		for _, r := range noReaders(5) {
			expectNotSeen(t, e, r)
		}
		expectPublish(t, e, v)
	}
	expectLeave(t, e, 3, 10, 11)
	expectNotSeen(t, e, 3)
	expectSeen(t, e, 1, 12)
	expectSeen(t, e, 2, 15)
	expectSeen(t, e, 4, 12)
	expectEnter(t, e, 3, 39)
	expectSeen(t, e, 3, 39)
}

// TestErrorsChangeNothing: behind each refused call, all is as it was.
func TestErrorsChangeNothing(t *testing.T) {
	e := several(t)
	expectLeave(t, e, 4)
	same := func() {
		t.Helper()
		expectVersions(t, e, 15, 10, 11, 12, 13, 14)
		expectSeen(t, e, 1, 12)
		expectSeen(t, e, 2, 15)
		expectSeen(t, e, 3, 10)
		expectNotSeen(t, e, 4)
		expectNotSeen(t, e, 5)
	}
	for range 3 {
		for _, r := range noReaders(5) {
			expectNoEnter(t, e, r)
			same()
			expectNoLeave(t, e, r)
			same()
		}
		for r := 1; r <= 3; r++ {
			expectNoEnter(t, e, r)
			same()
		}
		for r := 4; r <= 5; r++ {
			expectNoLeave(t, e, r)
			same()
		}
	}
	expectLeave(t, e, 3, 10, 11)
	expectLeave(t, e, 1, 12, 13, 14)
	expectLeave(t, e, 2)
}

// TestAllReaders: all readers of the greatest epoch are in since unlike publications.
func TestAllReaders(t *testing.T) {
	const n = 16
	for first := range n {
		e := made(t, n, 0)
		for i := range n {
			expectEnter(t, e, (first+i)%n+1, i)
			expectPublish(t, e, i+1)
		}
		all := make([]int, n)
		for i := range all {
			all[i] = i
		}
		expectVersions(t, e, n, all...)
		// All but the earliest one leave, and come back.
		for i := 1; i < n; i++ {
			expectLeave(t, e, (first+i)%n+1)
			expectEnter(t, e, (first+i)%n+1, n)
		}
		expectLeave(t, e, first+1, all...)
		expectVersions(t, e, n)
		expectPublish(t, e, -1)
	}
}

// TestVeryManyPublications: the earliest reader may let very many versions wait, and the
// number of those that were given back may be great.
func TestVeryManyPublications(t *testing.T) {
	const n = 1 << 20
	e := made(t, 16, 0)
	for i := range n {
		if l := e.Publish(i + 1); len(l) != 1 || l[0] != i {
			t.Fatalf("Publish(%d) returns %v", i+1, l)
		}
	}
	expectEnter(t, e, 7, n)
	expectPublish(t, e, n+1)
	expectEnter(t, e, 8, n+1)
	for i := n + 1; i < 2*n; i++ {
		if l := e.Publish(i + 1); len(l) != 0 {
			t.Fatalf("Publish(%d) returns %v", i+1, l)
		}
		if v, ok := e.Seen(8); v != n+1 || !ok {
			t.Fatalf("Seen(8) is %d %t", v, ok)
		}
		if i%1000 == 0 {
			expectEnter(t, e, 1, i+1)
			expectLeave(t, e, 1)
		}
	}
	expectLeave(t, e, 7, n)
	want := make([]int, n-1)
	for i := range want {
		want[i] = n + 1 + i
	}
	expectVersions(t, e, 2*n, want...)
	if l, _ := e.Leave(8); !slices.Equal(l, want) {
		t.Fatalf("Leave(8) returns %d versions", len(l))
	}
	expectVersions(t, e, 2*n)
	expectPublish(t, e, 0, 2*n)
}
