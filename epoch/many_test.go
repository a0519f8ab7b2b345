package epoch_test

import (
	"runtime"
	"slices"
	"sync"
	"sync/atomic"
	"testing"

	"crossway/api"
	"crossway/epoch"
)

// done is a call that was made, between these two moments.
type done struct {
	call       call
	answer     answer
	begin, end int64
}

// oneAfterOther tells whether the calls that are left can have come one after the other:
// lists has those of each goroutine, in its order. A call that ended before another one
// began came before it.
func oneAfterOther(p *plain, lists [][]done) bool {
	left := false
	for i, l := range lists {
		if len(l) == 0 {
			continue
		}
		left = true
		if !mayBeNext(lists, l[0]) {
			continue
		}
		q := p.clone()
		if l[0].call.do(q) != l[0].answer {
			continue
		}
		rest := slices.Clone(lists)
		rest[i] = l[1:]
		if oneAfterOther(q, rest) {
			return true
		}
	}
	return !left
}

// mayBeNext tells whether no call that is left ended before d began.
func mayBeNext(lists [][]done, d done) bool {
	for _, l := range lists {
		if len(l) > 0 && l[0].end < d.begin {
			return false
		}
	}
	return true
}

// atOnce makes the calls of each list in a goroutine of its own.
func atOnce(e *epoch.Epoch, calls [][]call) [][]done {
	var moment atomic.Int64
	var ready, w sync.WaitGroup
	lists := make([][]done, len(calls))
	ready.Add(len(calls))
	for i, l := range calls {
		w.Go(func() {
			ready.Done()
			ready.Wait()
			for _, c := range l {
				begin := moment.Add(1)
				a := c.do(e)
				lists[i] = append(lists[i], done{c, a, begin, moment.Add(1)})
			}
		})
	}
	w.Wait()
	return lists
}

// TestAsOneAfterTheOther: any calls of several goroutines at once return what they would
// return in some order, one after the other.
func TestAsOneAfterTheOther(t *testing.T) {
	s := source(21)
	for turn := range 3000 {
		readers := 1 + turn%3
		e, p := made(t, readers, 0), newPlain(readers, 0)
		// Some calls that come first, so that readers are in, and versions wait.
		for i := range s.below(6) {
			expectBoth(t, e, p, s.mixed(readers, 100+i))
		}
		calls := make([][]call, 4)
		for i := range calls {
			for k := range 4 {
				calls[i] = append(calls[i], s.mixed(readers, 10*i+k))
			}
		}
		lists := atOnce(e, calls)
		if !oneAfterOther(p, lists) {
			t.Fatalf("no order explains %v", lists)
		}
	}
}

// mixed is a call by chance that changes something or asks.
func (s *source) mixed(readers, version int) call {
	r := 1 + s.below(readers)
	switch s.below(8) {
	case 0, 1:
		return call{"Publish", version}
	case 2, 3:
		return call{"Enter", r}
	case 4, 5:
		return call{"Leave", r}
	case 6:
		return call{"Seen", r}
	}
	return call{[]string{"Current", "Waiting"}[s.below(2)], 0}
}

// backs is how often each version was given back.
type backs struct{ times []atomic.Int32 }

func (b *backs) add(l []int) {
	for _, v := range l {
		b.times[v].Add(1)
	}
}

// expectAll expects that all versions but the last one were given back once.
func (b *backs) expectAll(t *testing.T, e *epoch.Epoch) {
	t.Helper()
	expectVersions(t, e, e.Current())
	for v := range b.times {
		want := int32(1)
		if v == e.Current() {
			want = 0
		}
		if n := b.times[v].Load(); n != want {
			t.Fatalf("%d was given back %d times", v, n)
		}
	}
}

// TestReaders: while one goroutine publishes, no reader's version is given back as long as
// it is in, and each call gives back versions that follow one another.
func TestReaders(t *testing.T) {
	const n, readers = 20000, 16
	e := made(t, readers, 0)
	b := &backs{make([]atomic.Int32, n+1)}
	inOrder := func(l []int) {
		for i, v := range l {
			if v != l[0]+i {
				t.Errorf("given back are %v", l)
				return
			}
		}
	}
	var w, begun sync.WaitGroup
	var ended atomic.Bool
	begun.Add(readers)
	for r := 1; r <= readers; r++ {
		w.Go(func() {
			s := source(r)
			begun.Done()
			for before := 0; !ended.Load(); {
				v, f := e.Enter(r)
				if f != api.OK || v < before {
					t.Errorf("Enter(%d) is %d %d, behind %d", r, v, f, before)
					return
				}
				for range s.below(4) {
					if s.below(8) == 0 {
						runtime.Gosched()
					}
					if u, ok := e.Seen(r); u != v || !ok || b.times[v].Load() != 0 {
						t.Errorf("Seen(%d) is %d %t, not %d, or it was given back", r, u, ok, v)
					}
				}
				// What was replaced before it is asked for waits then.
				if u, l := e.Current(), e.Waiting(); u != v && !slices.Contains(l, v) {
					t.Errorf("%d isn't %d, which is current, nor among %v", v, u, l)
				}
				l, f := e.Leave(r)
				if f != api.OK {
					t.Errorf("Leave(%d) is %d", r, f)
				}
				inOrder(l)
				b.add(l)
				before = v
			}
		})
	}
	w.Go(func() {
		defer ended.Store(true)
		begun.Wait()
		for v := 1; v <= n; v++ {
			l := e.Publish(v)
			inOrder(l)
			b.add(l)
			if u := e.Current(); u != v {
				t.Errorf("Current is %d, not %d", u, v)
			}
			if v%16 == 0 {
				runtime.Gosched()
			}
		}
	})
	w.Wait()
	b.expectAll(t, e)
}

// TestPublishers: several goroutines publish, and all of them use the same readers.
func TestPublishers(t *testing.T) {
	const n, each, readers = 8, 3000, 4
	e := made(t, readers, 0)
	b := &backs{make([]atomic.Int32, n*each+1)}
	var entered, left [readers + 1]atomic.Int64
	var w sync.WaitGroup
	for i := range n {
		w.Go(func() {
			s := source(i)
			for k := range each {
				b.add(e.Publish(1 + i*each + k))
				r := 1 + s.below(readers)
				if _, f := e.Enter(r); f == api.OK {
					entered[r].Add(1)
				}
				r = 1 + s.below(readers)
				l, f := e.Leave(r)
				if f == api.OK {
					left[r].Add(1)
				} else if len(l) != 0 {
					t.Errorf("Leave(%d) returns %v with an error", r, l)
				}
				b.add(l)
			}
		})
	}
	w.Wait()
	for r := 1; r <= readers; r++ {
		in := entered[r].Load() - left[r].Load()
		_, ok := e.Seen(r)
		if ok && in != 1 || !ok && in != 0 {
			t.Errorf("reader %d entered %d times more than it left; in: %t", r, in, ok)
		}
		l, _ := e.Leave(r)
		b.add(l)
	}
	b.expectAll(t, e)
}

// TestOneOfSeveral: of several goroutines that let one reader in, or out, one succeeds.
func TestOneOfSeveral(t *testing.T) {
	for range 500 {
		e := made(t, 1, 3)
		for _, c := range []call{{"Enter", 1}, {"Leave", 1}} {
			calls := make([][]call, 8)
			for i := range calls {
				calls[i] = []call{c}
			}
			n := 0
			for _, l := range atOnce(e, calls) {
				if l[0].answer.f == api.OK {
					n++
				}
			}
			if n != 1 {
				t.Fatalf("%d calls of %s(1) succeed", n, c.name)
			}
		}
	}
}

// TestSeveralEpochs: goroutines with an epoch of their own don't meet.
func TestSeveralEpochs(t *testing.T) {
	var w sync.WaitGroup
	for i := range 6 {
		e, p := made(t, 1+i, i), newPlain(1+i, i)
		w.Go(func() {
			s := source(i)
			for range 500 {
				c := s.mixed(1+i, s.below(100))
				if got, want := c.do(e), c.do(p); got != want {
					t.Errorf("epoch %d: %s(%d) is %v, not %v", i, c.name, c.n, got, want)
					return
				}
			}
		})
	}
	w.Wait()
}
