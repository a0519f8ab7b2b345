package neigh_test

import (
	"runtime"
	"slices"
	"strings"
	"testing"

	"crossway/api"
)

// spoil and spoilKnown write into a list, into its spare capacity and behind it.
func spoil(l []api.Act) {
	_ = append(l, api.Act{Kind: 9})
	l = l[:cap(l)]
	for i := range l {
		l[i] = api.Act{Kind: 8, Port: 7, To: six, Mac: 66, Packet: "spoilt"}
	}
}

func spoilKnown(l []api.Neigh) {
	_ = append(l, api.Neigh{Port: 9})
	l = l[:cap(l)]
	for i := range l {
		l[i] = api.Neigh{Port: 7, Addr: six, State: 5, Mac: 66}
	}
}

// call is one of all calls, of any kind, to a cache.
func call(s *source, c cacher, x some) []api.Act {
	port, a, mac := one(s, x.ports), one(s, x.addrs), one(s, x.macs)
	var l []api.Act
	switch s.below(12) {
	case 0, 1, 2, 3:
		l, _ = c.Send(port, a, number(s.below(1000)))
	case 4:
		l, _ = c.Learn(port, a, mac)
	case 5, 6:
		l, _ = c.Tell(port, a, mac, s.below(2) == 0, s.below(2) == 0)
	case 7:
		if s.below(6) == 0 {
			l = c.Drop(port)
		}
	default:
		l = c.Tick()
	}
	return l
}

// Whoever writes into what was returned, and appends to it, changes nothing that is told later.
func TestResultsAreNew(t *testing.T) {
	for n, x := range []some{single, few, many()} {
		s, r, b := source(n), source(n), newPair(t)
		for range 6000 {
			got, want := call(&s, b.c, x), call(&r, b.p, x)
			expect(t, got, want...)
			spoil(got)
			spoilKnown(b.c.Known())
			b.same()
		}
		b.end()
	}
}

// What was returned stays as it was, whatever is called later, and whatever is written into
// other results.
func TestResultsStay(t *testing.T) {
	s, c, x := source(4), made(t), few
	var acts, wasActs [][]api.Act
	var known, wasKnown [][]api.Neigh
	for range 3000 {
		l, k := call(&s, c, x), c.Known()
		acts, wasActs = append(acts, l), append(wasActs, slices.Clone(l))
		known, wasKnown = append(known, k), append(wasKnown, slices.Clone(k))
	}
	for i := range acts {
		if !slices.Equal(acts[i], wasActs[i]) || !slices.Equal(known[i], wasKnown[i]) {
			t.Fatalf("R3: the results of the call %d have become %v, %v", i, acts[i], known[i])
		}
		spoil(acts[i])
		spoilKnown(known[i])
	}
}

// What is done to one cache is not to be seen in another, nor whether it is full.
func TestCachesAreIndependent(t *testing.T) {
	s := source(5)
	caches, ledgers := []pair{newPair(t), newPair(t), newPair(t)}, []*ledger{newLedger(t), newLedger(t), newLedger(t)}
	kinds := []some{few, few, many()}
	for range 6000 {
		i := s.below(3)
		change(caches[i], &s, ledgers[i], kinds[i])
		for _, b := range caches {
			b.same()
		}
	}
	full, empty := newPair(t), newPair(t)
	full.fill(64)
	expect(t, full.send(1, six, "p"), lost(1, six, "p"))
	expect(t, empty.send(1, six, "p"), asked(1, six, 0))
	full.same()
	empty.same()
}

// The same calls give the same results, of each cache.
func TestSameAgain(t *testing.T) {
	c, d := made(t), made(t)
	s, r := source(6), source(6)
	for range 8000 {
		expect(t, call(&s, c, many()), call(&r, d, many())...)
		if !slices.Equal(c.Known(), d.Known()) {
			t.Fatal("R4: two caches to which the same was done know others")
		}
	}
}

// heap is how many bytes are in use.
func heap() int {
	runtime.GC()
	runtime.GC()
	var m runtime.MemStats
	runtime.ReadMemStats(&m)
	return int(m.HeapAlloc)
}

// Packets that do not wait any more, and neighbours that are not known any more, are not kept.
func TestGoneIsNotKept(t *testing.T) {
	c := made(t)
	before := heap()
	const size = 1 << 16
	big := func(i int) string { return strings.Repeat(string(rune('a'+i%26)), size) }
	for n := range uint64(3) {
		for i := range uint64(60) {
			a := api.Addr{Lo: 10<<24 + n<<8 + i}
			for range 40 { // 37 of them are lost
				c.Send(1, a, big(int(i)))
			}
			switch i % 4 {
			case 0:
				c.Learn(1, a, 5)
			case 1:
				c.Tell(1, a, 5, true, true)
			case 2:
				c.Tell(1, a, 5, false, false)
			}
			if i%2 == 0 {
				c.Send(1, a, big(int(i)))
			}
		}
		if kept := heap() - before; kept > 16*3*size {
			t.Errorf("X7: %d bytes are kept of packets three of which may wait for each of 15 neighbours", kept)
		}
		for range 3 {
			c.Tick()
		}
		if kept := heap() - before; kept > size {
			t.Errorf("%d bytes are kept of packets that do not wait", kept)
		}
		c.Drop(1)
	}
	for i := range uint64(200000) {
		c.Learn(2, api.Addr{Lo: 11<<24 + i}, 5)
		if i%50 == 0 {
			c.Drop(2)
		}
	}
	if kept := heap() - before; kept > size {
		t.Errorf("%d bytes are kept of neighbours that are gone", kept)
	}
	runtime.KeepAlive(c)
}
