package iface_test

import (
	"runtime"
	"slices"
	"strings"
	"testing"

	"crossway/api"
	"crossway/iface"
)

// copied is a copy of a set, which tells the same.
func copied(t *testing.T, s *iface.Set) *iface.Set {
	t.Helper()
	c := s.Copy()
	if c == nil || c == s {
		t.Fatal("O5: Copy returns no new set")
	}
	expectTells(t, c, tells(s))
	return c
}

func TestCopyOfEmpty(t *testing.T) {
	s := iface.New()
	c := copied(t, s)
	d := copied(t, c)
	expectAdd(t, c, "a", 2, 1500, 1)
	expectNoPort(t, s, 1)
	expectNamed(t, s, "a", 0)
	expectAdd(t, s, "b", 4, 68, 1)
	expectAdd(t, s, "a", 4, 68, 2)
	expectNamed(t, c, "b", 0)
	expectNamed(t, c, "a", 1)
	expectPort(t, c, 1, api.Port{Name: "a", Mac: 2, Mtu: 1500})
	expectNoPort(t, c, 2)
	expectTells(t, d, tells(iface.New()))
}

// fullest is a set with as many ports and locals as there may be; every second port is up.
func fullest(t *testing.T) *iface.Set {
	t.Helper()
	s := ports(t, 8)
	for i := range uint64(64) {
		a := api.Addr{Lo: 10<<24 + i}
		if i%3 == 0 {
			a = api.Addr{Six: true, Hi: 0x20010db8 << 32, Lo: i + 1}
		}
		if e := s.Put(int(i%8)+1, a, int(i%30)+1); e != api.OK {
			t.Fatalf("O2: %d", e)
		}
	}
	for port := 2; port <= 8; port += 2 {
		expectTurn(t, s, port, true)
	}
	return s
}

// TestCopyOfFull: the copy of a full set is full, and each change of one of them leaves the
// other one as it was.
func TestCopyOfFull(t *testing.T) {
	for _, swap := range []bool{false, true} {
		s := fullest(t)
		before := tells(s)
		c := copied(t, s)
		if swap {
			s, c = c, s
		}
		expectNoAdd(t, c, "new", 2, 1500, api.ErrIfaceFull)
		expectNoAdd(t, c, "p8", 2, 1500, api.ErrIfaceName)
		for port := 1; port <= 8; port++ {
			expectNoPut(t, c, port, at("10.9.9.9"), 24, api.ErrIfaceFull)
			l := c.Locals(port)
			expectNoPut(t, c, port, l[0].Addr, 24, api.ErrIfaceAddr)
			expectTurn(t, c, port, port%2 == 1)
			expectTells(t, s, before)
			for _, i := range []int{3, 0, 7} {
				if e := c.Drop(port, l[i].Addr); e != api.OK {
					t.Fatalf("O2: %d", e)
				}
				expectTells(t, s, before)
			}
			if e := c.Put(port, api.Addr{Lo: 11<<24 + uint64(port)}, 24); e != api.OK {
				t.Fatalf("O2: %d", e)
			}
			expectTells(t, s, before)
			expectLocals(t, c, port, l[1], l[2], l[4], l[5], l[6], api.Local{Addr: api.Addr{Lo: 11<<24 + uint64(port)}, Bits: 24})
		}
		if tells(c) == before {
			t.Error("O5: the copy has not changed")
		}
	}
}

// TestCopyHasRoom: both add to what they had in common, also in turn.
func TestCopyHasRoom(t *testing.T) {
	for n := 1; n < 8; n++ {
		s := ports(t, n)
		for i := range uint64(n) {
			if e := s.Put(1, api.Addr{Lo: 10<<24 + i}, 24); e != api.OK {
				t.Fatalf("O2: %d", e)
			}
		}
		common := s.Locals(1)
		c := copied(t, s)
		d := copied(t, s)
		expectPut(t, s, 1, "11.0.0.1", 1)
		expectPut(t, c, 1, "11.0.0.2", 2)
		expectPut(t, d, 1, "11.0.0.3", 3)
		expectLocals(t, s, 1, append(slices.Clone(common), local("11.0.0.1", 1))...)
		expectLocals(t, c, 1, append(slices.Clone(common), local("11.0.0.2", 2))...)
		expectLocals(t, d, 1, append(slices.Clone(common), local("11.0.0.3", 3))...)
		expectAdd(t, s, "s", 2, 100, n+1)
		expectAdd(t, c, "c", 4, 200, n+1)
		expectAdd(t, d, "d", 6, 300, n+1)
		expectPort(t, s, n+1, api.Port{Name: "s", Mac: 2, Mtu: 100})
		expectPort(t, c, n+1, api.Port{Name: "c", Mac: 4, Mtu: 200})
		expectPort(t, d, n+1, api.Port{Name: "d", Mac: 6, Mtu: 300})
		expectNamed(t, s, "c", 0)
		expectNamed(t, c, "c", n+1)
		expectNamed(t, c, "d", 0)
		expectMine(t, s, "11.0.0.2", 0)
		expectMine(t, c, "11.0.0.1", 0)
	}
}

// TestCopyOfCopy: a copy is a set like any other.
func TestCopyOfCopy(t *testing.T) {
	s := fullest(t)
	before := tells(s)
	c := s
	for range 20 {
		c = copied(t, c)
	}
	expectTurn(t, s, 1, true)
	expectDrop(t, s, 2, "10.0.0.1")
	expectTells(t, c, before)
}

// spoil writes into a list, and into its spare capacity.
func spoil(l []api.Local) {
	l = l[:cap(l)]
	for i := range l {
		l[i] = local("9.9.9.9", 9)
	}
	_ = append(l[:0], make([]api.Local, 100)...)
}

// TestLocalsAreNew: writing into what Locals returned, and appending to it, changes nothing
// that is told later, nor another result.
func TestLocalsAreNew(t *testing.T) {
	s := upPorts(t, 2)
	for i, text := range eight {
		before := tells(s)
		one, other := s.Locals(2), s.Locals(2)
		want := slices.Clone(other)
		_ = append(one, local("9.9.9.9", 9), local("8.8.8.8", 8))
		spoil(one)
		spoil(s.Locals(1))
		spoil(s.Locals(3))
		if !slices.Equal(other, want) {
			t.Fatalf("O3: another result of Locals has become %v", other)
		}
		expectTells(t, s, before)
		expectPut(t, s, 2, text, i+1)
		if !slices.Equal(other, want) {
			t.Fatalf("O3: a result of Locals has become %v", other)
		}
		spoil(other)
		expectLocals(t, s, 2, lessOne(-1)[:i+1]...)
	}
}

// TestLocalsStay: what Locals returned does not follow the set.
func TestLocalsStay(t *testing.T) {
	s := full(t)
	l := s.Locals(2)
	c := s.Copy()
	m := c.Locals(2)
	for _, text := range eight[:4] {
		expectDrop(t, s, 2, text)
		spoil(s.Locals(2))
	}
	expectPut(t, s, 2, "11.0.0.1", 24)
	if want := lessOne(-1); !slices.Equal(l, want) || !slices.Equal(m, want) {
		t.Errorf("O3: they have become %v and %v", l, m)
	}
	spoil(l)
	spoil(m)
	expectLocals(t, c, 2, lessOne(-1)...)
	expectLocals(t, s, 2, append(lessOne(-1)[4:], local("11.0.0.1", 24))...)
}

// TestIndependent: two sets that were made separately.
func TestIndependent(t *testing.T) {
	s, o := ports(t, 2), ports(t, 1)
	before := tells(o)
	expectTurn(t, s, 1, true)
	expectPut(t, s, 1, "10.0.0.1", 24)
	expectAdd(t, s, "x", 2, 1500, 3)
	expectTells(t, o, before)
	expectPut(t, o, 1, "10.0.0.1", 8)
	expectAdd(t, o, "x", 2, 1500, 2)
	expectLocals(t, s, 1, local("10.0.0.1", 24))
	expectDrop(t, s, 1, "10.0.0.1")
	expectMine(t, o, "10.0.0.1", 1)
	expectNear(t, o, "10.0.0.1", 0)
	expectPort(t, o, 1, api.Port{Name: "p1", Mac: 2, Mtu: 1500})
}

// heap is how many bytes are in use.
func heap() int {
	runtime.GC()
	var m runtime.MemStats
	runtime.ReadMemStats(&m)
	return int(m.HeapAlloc)
}

// TestNamesAreCopies: a set does not hold the text of which a name is a piece.
func TestNamesAreCopies(t *testing.T) {
	const n = 1 << 22
	s := iface.New()
	before := heap()
	for i := 1; i <= 8; i++ {
		long := strings.Repeat(nameOf(i), n)
		expectAdd(t, s, long[n:n+2], 2, 1500, i)
	}
	if kept := heap() - before; kept > n {
		t.Errorf("R3: %d bytes are kept for 8 names", kept)
	}
	expectNamed(t, s, "p8", 8)
}
