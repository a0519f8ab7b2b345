package resolve_test

import (
	"cmp"
	"fmt"
	"math"
	"slices"
	"strings"
	"testing"

	"crossway/addr"
	"crossway/api"
	"crossway/iface"
	"crossway/poptrie"
	"crossway/prefix"
	"crossway/resolve"
	"crossway/rib"
)

// source makes numbers that look like chance, the same ones each time.
type source uint64

func (s *source) next() uint64 {
	*s = *s*6364136223846793005 + 1442695040888963407
	return uint64(*s ^ *s>>29)
}

func (s *source) below(n int) int { return int(s.next() >> 11 % uint64(n)) }

// one is one of a list.
func one[T any](s *source, l []T) T { return l[s.below(len(l))] }

// some are n entries of a list, by chance, some perhaps twice.
func (s *source) some(l []api.Entry, n int) []api.Entry {
	var all []api.Entry
	for range n {
		all = append(all, one(s, l))
	}
	return all
}

// announced is a path to a prefix.
type announced struct {
	p api.Prefix
	x api.Path
}

// plain is a rib and ports in another way: a list of all paths, which is gone through for
// each question by the words of the chapter, and which ports exist and are up.
type plain struct {
	all []announced
	up  map[int]bool
}

// written are the digits of addresses that were asked for.
var written = map[api.Addr]string{}

// digits are the bits of a valid address.
func digits(a api.Addr) string {
	if written[a] == "" {
		written[a] = fmt.Sprintf("%032b", a.Lo)
		if a.Six {
			written[a] = fmt.Sprintf("%064b%064b", a.Hi, a.Lo)
		}
	}
	return written[a]
}

// isHeld tells whether a prefix holds an address.
func isHeld(p api.Prefix, a api.Addr) bool {
	return prefix.Valid(p) && addr.Valid(a) && p.Addr.Six == a.Six && strings.HasPrefix(digits(a), digits(p.Addr)[:p.Bits])
}

func (m *plain) path(p api.Prefix) (best api.Path, ok bool) {
	for _, c := range m.all {
		if c.p == p && (c.x.Port == 0 || m.up[c.x.Port]) && (!ok || rib.Better(c.x, best)) {
			best, ok = c.x, true
		}
	}
	return best, ok
}

func (m *plain) hop(p api.Prefix) (api.Hop, api.Errno) {
	x, ok := m.path(p)
	if !ok {
		return api.Hop{}, api.ErrResolveNone
	}
	return m.hopOf(x, 1)
}

// hopOf is the hop of a path; its neighbour, if it is by one, is the one of that number.
func (m *plain) hopOf(x api.Path, number int) (api.Hop, api.Errno) {
	switch {
	case x.Away:
		return nowhere, api.OK
	case x.Port > 0:
		return api.Hop{Port: x.Port, Via: x.Via}, api.OK
	case number == 9:
		return api.Hop{}, api.ErrResolveDeep
	}
	for bits := 128; bits >= 0; bits-- {
		for _, c := range m.all {
			if c.p.Bits != bits || !isHeld(c.p, x.Via) {
				continue
			}
			y, ok := m.path(c.p)
			if !ok {
				continue
			}
			if y.Port > 0 && y.Via == (api.Addr{}) {
				return api.Hop{Port: y.Port, Via: x.Via}, api.OK
			}
			return m.hopOf(y, number+1)
		}
	}
	return api.Hop{}, api.ErrResolveNone
}

// place is where a prefix stands in the order: IPv4 first, then by the bits, then by their
// number.
func place(p api.Prefix) string {
	d := digits(p.Addr)
	return fmt.Sprintf("%03d %s %03d", len(d), d, p.Bits)
}

func (m *plain) table() []api.Entry {
	var l []api.Entry
	for _, c := range m.all {
		if h, e := m.hop(c.p); e == api.OK && !slices.Contains(l, api.Entry{Prefix: c.p, Hop: h}) {
			l = append(l, api.Entry{Prefix: c.p, Hop: h})
		}
	}
	slices.SortFunc(l, func(x, y api.Entry) int { return cmp.Compare(place(x.Prefix), place(y.Prefix)) })
	return l
}

// world is a rib and ports in both ways, which change together.
type world struct {
	r *rib.Rib
	s *iface.Set
	m plain
}

// Prefixes, and neighbours that they hold, so near each other that many paths depend on
// others.
var (
	worldPrefixes = []string{"0.0.0.0/0", "10.0.0.0/8", "10.0.0.0/16", "10.0.0.0/30", "10.0.0.1/32", "10.0.0.2/32", "10.1.0.0/16", "10.1.0.1/32", "11.0.0.0/8", "11.0.0.1/32", "12.0.0.0/8", "13.0.0.0/8", "14.0.0.0/8", "15.0.0.0/8", "16.0.0.0/8", "17.0.0.0/8", "18.0.0.0/8", "::/0", "2001:db8::/32", "2001:db8::/64", "2001:db8::1/128", "2001:db8:0:1::/64", "2001:db9::/32", "::a00:0/104"}
	neighbours    = []string{"10.0.0.1", "10.0.0.2", "10.0.9.9", "10.1.0.1", "10.9.0.1", "11.0.0.1", "12.0.0.1", "13.0.0.1", "14.0.0.1", "15.0.0.1", "16.0.0.1", "17.0.0.1", "18.0.0.1", "99.0.0.1", "2001:db8::1", "2001:db8::2", "2001:db8:0:1::1", "2001:db9::1", "::a00:1"}
)

// newWorld is a world with some ports.
func newWorld(t *testing.T, letters string) *world {
	w := &world{r: rib.New(), s: ports(t, letters)}
	w.m.up = map[int]bool{}
	for i, c := range letters {
		w.m.up[i+1] = c == 'u'
	}
	return w
}

// step is a change by chance: a path comes or goes, or a port turns.
func (w *world) step(t *testing.T, s *source, toNeighbours int) {
	t.Helper()
	switch k := s.below(20); {
	case k == 0:
		port := s.below(len(w.m.up)) + 1
		w.m.up[port] = !w.m.up[port]
		turn(t, w.s, port, w.m.up[port])
	case k < 6 && len(w.m.all) > 0:
		i := s.below(len(w.m.all))
		drop(t, w.r, prefix.Print(w.m.all[i].p), w.m.all[i].x)
		w.m.all = slices.Delete(w.m.all, i, i+1)
	default:
		w.put(t, s, announced{pre(one(s, worldPrefixes)), s.chancePath(toNeighbours)})
	}
}

// chancePath is a path by chance, one by a neighbour in so many of ten.
func (s *source) chancePath(toNeighbours int) api.Path {
	x := api.Path{Proto: s.below(5), Metric: s.below(3)}
	switch k := s.below(40); {
	case s.below(10) < toNeighbours:
		x.Via = at(one(s, neighbours))
	case k == 0:
		x.Away = true
	case k < 20:
		x.Port, x.Via = s.below(4)+1, at(one(s, neighbours))
	default:
		x.Port = s.below(4) + 1
	}
	return x
}

// put puts a path in both ways, if it may be, and is not there.
func (w *world) put(t *testing.T, s *source, c announced) {
	t.Helper()
	for _, o := range w.m.all {
		if o.p == c.p && o.x.Proto == c.x.Proto && o.x.Via == c.x.Via && o.x.Port == c.x.Port && o.x.Away == c.x.Away {
			return
		}
	}
	if w.r.Put(c.p, c.x) == api.OK {
		w.m.all = append(w.m.all, c)
	}
}

// expectAsPlain expects what the plain way tells: of each prefix, and the table.
func (w *world) expectAsPlain(t *testing.T, met map[api.Errno]int) []api.Entry {
	t.Helper()
	for _, text := range worldPrefixes {
		p := pre(text)
		want, ok := w.m.path(p)
		if ok {
			expectPath(t, w.r, w.s, text, want)
		} else {
			expectNoPath(t, w.r, w.s, p)
		}
		h, e := w.m.hop(p)
		met[e]++
		if e == api.OK {
			expectHop(t, w.r, w.s, text, h)
		} else {
			expectNoHop(t, w.r, w.s, p, e)
		}
	}
	expectTable(t, w.r, w.s, w.m.table()...)
	return resolve.Table(w.r, w.s)
}

// expectUsable expects that each entry of a table is away, or by a port that is up.
func (w *world) expectUsable(t *testing.T, l []api.Entry) {
	t.Helper()
	for _, x := range l {
		if x.Hop != nowhere && (x.Hop.Away || !w.m.up[x.Hop.Port]) {
			t.Errorf("U4: the hop of %v is %v", x.Prefix, x.Hop)
		}
	}
}

// expectFound expects that Look, and Find in the trie of the numbered routes, tell the same
// of each address, which is what the plain way tells.
func expectFound(t *testing.T, l []api.Entry) {
	t.Helper()
	routes, hops := resolve.Number(l)
	trie, e := poptrie.New(routes...)
	if e != api.OK {
		t.Fatalf("U4: the routes %v are no table: %d", routes, e)
	}
	for _, a := range probes() {
		h, ok := resolve.Look(l, a)
		n := trie.Find(a)
		if ok != (n > 0) || n == 0 && h != (api.Hop{}) || n > 0 && hops[n-1] != h {
			t.Errorf("U4: Look(%v) is %v %t, but Find is %d of %v", a, h, ok, n, hops)
		}
		if want, is := looked(l, a); h != want || ok != is {
			t.Errorf("U2: Look(%v, %v) is %v %t, not %v", l, a, h, ok, want)
		}
	}
}

// probes are addresses that prefixes of a world hold, and others, and what is none.
func probes() []api.Addr {
	all := slices.Clone(wrongAddrs)
	for _, text := range append([]string{"0.0.0.0", "9.255.255.255", "10.0.0.0", "10.0.0.3", "10.0.0.4", "10.255.255.255", "255.255.255.255", "::", "::1", "fe80::1", "2001:db8::", "2001:db8:ffff::", "ffff:ffff::"}, neighbours...) {
		all = append(all, at(text))
	}
	return all
}

// looked is the hop of an address by entries.
func looked(l []api.Entry, a api.Addr) (api.Hop, bool) {
	for bits := 128; bits >= 0; bits-- {
		for _, x := range l {
			if x.Prefix.Bits == bits && isHeld(x.Prefix, a) {
				return x.Hop, true
			}
		}
	}
	return api.Hop{}, false
}

// expectApplied expects that the changes from some entries to others, applied to the first
// ones, give the second ones; each of them changes something, and they are in order.
func expectApplied(t *testing.T, old, now []api.Entry) {
	t.Helper()
	l := resolve.Changes(old, now)
	left := slices.Clone(old)
	for i, c := range l {
		if i > 0 && place(l[i-1].Entry.Prefix) >= place(c.Entry.Prefix) {
			t.Errorf("U3: the changes %v are not in order", l)
		}
		at := slices.IndexFunc(left, func(x api.Entry) bool { return x.Prefix == c.Entry.Prefix })
		switch {
		case c.Gone && at >= 0 && left[at] == c.Entry:
			left = slices.Delete(left, at, at+1)
		case !c.Gone && at >= 0 && left[at].Hop != c.Entry.Hop:
			left[at] = c.Entry
		case !c.Gone && at < 0:
			left = append(left, c.Entry)
		default:
			t.Errorf("U3: %v changes nothing of %v", c, left)
		}
	}
	slices.SortFunc(left, func(x, y api.Entry) int { return cmp.Compare(place(x.Prefix), place(y.Prefix)) })
	if !slices.Equal(left, now) {
		t.Errorf("U4: the changes from %v give %v, not %v", old, left, now)
	}
}

// TestMixtures: worlds that change by chance, few and many of whose paths depend on others.
func TestMixtures(t *testing.T) {
	met := map[api.Errno]int{}
	for seed := range 18 {
		s := source(seed)
		w := newWorld(t, one(&s, []string{"u", "uudw", "dddd", "uuuu", "wuuduuuu"}))
		var old []api.Entry
		for turn := range 300 {
			w.step(t, &s, 1+seed%9)
			if turn%5 == 0 {
				now := w.expectAsPlain(t, met)
				w.expectUsable(t, now)
				expectFound(t, now)
				expectApplied(t, old, now)
				expectApplied(t, now, old)
				old = now
			}
		}
		if t.Failed() {
			t.FailNow()
		}
	}
	if met[api.OK] < 1000 || met[api.ErrResolveNone] < 1000 || met[api.ErrResolveDeep] < 1000 {
		t.Errorf("too few hops or errors were met: %v", met)
	}
}

// TestAnyOrder: a table does not depend on the order in which paths and ports came.
func TestAnyOrder(t *testing.T) {
	s := source(8)
	for range 20 {
		w := newWorld(t, "uudu")
		for range 100 {
			w.step(t, &s, 5)
		}
		want := resolve.Table(w.r, w.s)
		for range 5 {
			o := newWorld(t, "dwuw")
			for port, up := range w.m.up {
				turn(t, o.s, port, up)
			}
			all := slices.Clone(w.m.all)
			for i := range all {
				j := i + s.below(len(all)-i)
				all[i], all[j] = all[j], all[i]
				put(t, o.r, prefix.Print(all[i].p), all[i].x)
			}
			expectTable(t, o.r, o.s, want...)
			expectTable(t, w.r.Copy(), w.s.Copy(), want...)
		}
	}
}

// TestFindAtAPortThatTurns: before and behind a port goes down.
func TestFindAtAPortThatTurns(t *testing.T) {
	r, s := example(t)
	put(t, r, "0.0.0.0/0", of(4, near(2, "10.0.0.7")))
	put(t, r, "20.0.0.0/8", of(2, by(2)))
	old := resolve.Table(r, s)
	expectFound(t, old)
	turn(t, s, 1, false)
	turn(t, s, 2, true)
	now := resolve.Table(r, s)
	expectFound(t, now)
	expectApplied(t, old, now)
	other := hop(2, "10.0.0.7")
	expectTable(t, r, s, entry("0.0.0.0/0", other), entry("20.0.0.0/8", other), entry("30.0.0.0/8", other), entry("40.0.0.0/8", hop(2)), entry("50.0.0.0/8", nowhere))
	expectChanges(t, old, now, set(entry("0.0.0.0/0", other)), gone(entry("10.0.0.0/24", hop(1))), set(entry("20.0.0.0/8", other)), set(entry("30.0.0.0/8", other)), set(entry("40.0.0.0/8", hop(2))))
}

// TestNoPanic: any entries and addresses.
func TestNoPanic(t *testing.T) {
	s := source(9)
	numbers := []int{math.MinInt, -129, -1, 0, 1, 8, 31, 32, 33, 64, 127, 128, 129, 1 << 32, math.MaxInt}
	words := []uint64{0, 1, 10 << 24, 10<<24 + 1, 1 << 31, 1<<32 - 1, 1 << 32, 1 << 63, math.MaxUint64, 0x20010db8 << 32}
	anyAddr := func() api.Addr {
		return api.Addr{Six: s.below(2) == 0, Hi: one(&s, words), Lo: one(&s, words)}
	}
	anyList := func() (l []api.Entry) {
		for range s.below(8) {
			h := api.Hop{Port: one(&s, numbers), Via: anyAddr(), Away: s.below(2) == 0}
			l = append(l, api.Entry{Prefix: api.Prefix{Addr: anyAddr(), Bits: one(&s, numbers)}, Hop: h})
		}
		return l
	}
	r, set := example(t)
	for range 20000 {
		old, now, a := anyList(), anyList(), anyAddr()
		h, ok := resolve.Look(old, a)
		if want, is := looked(old, a); h != want || ok != is {
			t.Fatalf("U2: Look(%v, %v) is %v %t, not %v", old, a, h, ok, want)
		}
		if l := resolve.Changes(old, now); len(l) > len(old)+len(now) {
			t.Fatalf("U3: Changes(%v, %v) is %v", old, now, l)
		}
		if routes, hops := resolve.Number(old); len(routes) != len(old) || len(hops) > len(old) {
			t.Fatalf("U3: Number(%v) is %v %v", old, routes, hops)
		}
		p := api.Prefix{Addr: a, Bits: one(&s, numbers)}
		if len(r.Paths(p)) == 0 {
			expectNoPath(t, r, set, p)
			expectNoHop(t, r, set, p, api.ErrResolveNone)
		}
	}
}
