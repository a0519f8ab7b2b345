package rib_test

import (
	"fmt"
	"math"
	"slices"
	"strings"
	"testing"

	"crossway/addr"
	"crossway/api"
	"crossway/rib"
)

// source makes numbers that look like chance, the same ones each time.
type source uint64

func (s *source) next() uint64 {
	*s = *s*6364136223846793005 + 1442695040888963407
	return uint64(*s ^ *s>>29)
}

func (s *source) below(n int) int { return int(s.next() >> 11 % uint64(n)) }

// one is one of a list.
func one[T any](s *source, l []T) T { return l[s.below(len(l))] }

// shuffled are the elements of a list in another order.
func shuffled[T any](s *source, l []T) []T {
	l = slices.Clone(l)
	for i := range l {
		j := i + s.below(len(l)-i)
		l[i], l[j] = l[j], l[i]
	}
	return l
}

// ribs is what a rib can do, and a plain one too.
type ribs interface {
	Put(p api.Prefix, x api.Path) api.Errno
	Drop(p api.Prefix, x api.Path) api.Errno
	Flush(proto int) int
	Paths(p api.Prefix) []api.Path
	Best(p api.Prefix) (api.Path, bool)
	Prefixes() []api.Prefix
	Over(a api.Addr) []api.Prefix
	Count() int
}

// wrongAddrs are no valid addresses; some have the numbers of valid ones, and more.
var wrongAddrs = []api.Addr{
	{Lo: 1 << 32}, {Lo: 10<<24 + 1 + 1<<32}, {Lo: 1 << 63}, {Lo: math.MaxUint64}, {Lo: 0xfe80 << 48},
	{Hi: 1}, {Hi: 1, Lo: 10<<24 + 1}, {Hi: 1 << 63}, {Hi: 0x20010db8 << 32}, {Hi: 0x20010db8 << 32, Lo: 1}, {Hi: math.MaxUint64, Lo: math.MaxUint64},
}

// probeAddrs are addresses near which the tests have prefixes, and what is none.
func probeAddrs() []api.Addr {
	all := slices.Clone(wrongAddrs)
	for _, text := range []string{"0.0.0.0", "10.0.0.0", "10.0.0.1", "10.0.0.2", "10.0.1.1", "10.1.2.3", "10.128.0.0", "11.0.0.1", "99.0.0.1", "128.0.0.1", "255.255.255.255", "::", "::1", "::a00:1", "2001:db8::", "2001:db8::1", "2001:db8:0:1::1", "fe80::1", "ffff::1"} {
		all = append(all, at(text))
	}
	return all
}

// probePrefixes are prefixes that the tests have, and what is none.
func probePrefixes() []api.Prefix {
	all := slices.Clone(noPrefixes)
	for _, text := range append(slices.Clone(nested), "99.0.0.0/8", "10.1.0.0/16", "10.1.2.0/24", "9.0.0.0/8", "11.0.0.0/8") {
		all = append(all, pre(text))
	}
	return all
}

// tells is all that a rib tells, as text, so that it can be compared.
func tells(r ribs) string {
	var text strings.Builder
	for _, p := range append(r.Prefixes(), probePrefixes()...) {
		x, ok := r.Best(p)
		fmt.Fprintln(&text, p, r.Paths(p), x, ok)
	}
	for _, a := range probeAddrs() {
		fmt.Fprint(&text, r.Over(a), " ")
	}
	fmt.Fprintln(&text, "\n", r.Prefixes(), r.Count())
	return text.String()
}

// expectTells expects that a rib tells the same as was told before.
func expectTells(t *testing.T, r ribs, want string) {
	t.Helper()
	if got := tells(r); got != want {
		t.Fatalf("it tells\n%s\nand not\n%s", got, want)
	}
}

// held is a path to a prefix in a plain rib.
type held struct {
	p api.Prefix
	x api.Path
}

// plain is a rib in another way: one list of all paths, in the order in which they were
// added, which is gone through for each question by the words of the chapter.
type plain struct{ all []held }

func (r *plain) clone() *plain { return &plain{slices.Clone(r.all)} }

// digits are the bits of a valid address.
func digits(a api.Addr) string {
	if a.Six {
		return fmt.Sprintf("%064b%064b", a.Hi, a.Lo)
	}
	return fmt.Sprintf("%032b", a.Lo)
}

// isPrefix tells whether a prefix is valid.
func isPrefix(p api.Prefix) bool {
	if !addr.Valid(p.Addr) || p.Bits < 0 {
		return false
	}
	d := digits(p.Addr)
	return p.Bits <= len(d) && !strings.Contains(d[p.Bits:], "1")
}

// isHeld tells whether a prefix holds an address.
func isHeld(p api.Prefix, a api.Addr) bool {
	return isPrefix(p) && addr.Valid(a) && p.Addr.Six == a.Six && strings.HasPrefix(digits(a), digits(p.Addr)[:p.Bits])
}

// sameWay tells whether two paths are the same way.
func sameWay(x, y api.Path) bool {
	x.Metric, y.Metric = 0, 0
	return x == y
}

// isPath tells whether a path to a prefix is valid.
func isPath(p api.Prefix, x api.Path) bool {
	if !isPrefix(p) || far(x.Proto) == 255 || x.Metric < 0 || x.Metric > 65535 || x.Port < 0 || x.Port > 8 {
		return false
	}
	if x.Via == (api.Addr{}) {
		return x.Away != (x.Port > 0)
	}
	if x.Away || x.Via.Six != p.Addr.Six {
		return false
	}
	return addr.Class(x.Via) == 5 || addr.Class(x.Via) == 2 && x.Port > 0
}

func (r *plain) Put(p api.Prefix, x api.Path) api.Errno {
	if !isPath(p, x) {
		return api.ErrRibForm
	}
	for i, h := range r.all {
		if h.p == p && sameWay(h.x, x) {
			r.all[i].x = x
			return api.OK
		}
	}
	if n := len(r.Paths(p)); n == 4 || n == 0 && len(r.Prefixes()) == 90 {
		return api.ErrRibFull
	}
	r.all = append(r.all, held{p, x})
	return api.OK
}

func (r *plain) Drop(p api.Prefix, x api.Path) api.Errno {
	for i, h := range r.all {
		if h.p == p && sameWay(h.x, x) {
			r.all = slices.Delete(r.all, i, i+1)
			return api.OK
		}
	}
	return api.ErrRibNone
}

func (r *plain) Flush(proto int) int {
	before := len(r.all)
	r.all = slices.DeleteFunc(r.all, func(h held) bool { return h.x.Proto == proto })
	return before - len(r.all)
}

func (r *plain) Paths(p api.Prefix) (l []api.Path) {
	for _, h := range r.all {
		if h.p == p {
			l = append(l, h.x)
		}
	}
	slices.SortFunc(l, func(x, y api.Path) int { return strings.Compare(rank(x), rank(y)) })
	return l
}

func (r *plain) Best(p api.Prefix) (api.Path, bool) {
	l := r.Paths(p)
	if len(l) == 0 {
		return api.Path{}, false
	}
	return l[0], true
}

func (r *plain) Prefixes() (l []api.Prefix) {
	for _, h := range r.all {
		if !slices.Contains(l, h.p) {
			l = append(l, h.p)
		}
	}
	// Fewer digits are IPv4, and come first.
	key := func(p api.Prefix) string {
		d := digits(p.Addr)
		return fmt.Sprintf("%03d %s %03d", len(d), d, p.Bits)
	}
	slices.SortFunc(l, func(p, q api.Prefix) int { return strings.Compare(key(p), key(q)) })
	return l
}

func (r *plain) Over(a api.Addr) (l []api.Prefix) {
	for bits := 128; bits >= 0; bits-- {
		for _, h := range r.all {
			if h.p.Bits == bits && isHeld(h.p, a) && !slices.Contains(l, h.p) {
				l = append(l, h.p)
			}
		}
	}
	return l
}

func (r *plain) Count() int { return len(r.all) }

// call is one call that changes a rib.
type call struct {
	what  string
	p     api.Prefix
	x     api.Path
	proto int // of Flush
}

// do makes one call, and tells what it returned.
func (c call) do(r ribs) int {
	switch c.what {
	case "Put":
		return int(r.Put(c.p, c.x))
	case "Drop":
		return int(r.Drop(c.p, c.x))
	}
	return r.Flush(c.proto)
}

// expectBoth makes one call of both, and expects the same result.
func expectBoth(t *testing.T, r *rib.Rib, m *plain, c call) {
	t.Helper()
	if n, want := c.do(r), c.do(m); n != want {
		t.Fatalf("%v is %d, not %d", c, n, want)
	}
}

// chancePath is a path by chance, mostly a valid one to a prefix of one of the families.
func (s *source) chancePath() api.Path {
	x := api.Path{Proto: s.below(5), Metric: s.below(4)}
	texts := []string{"10.0.0.1", "10.0.0.2", "169.254.0.1", "2001:db8::1", "fe80::1", "fe80::2"}
	switch s.below(6) {
	case 0:
		x.Away = true
	case 1:
		x.Via = at(one(s, texts))
	case 2, 3:
		x.Port, x.Via = 1+s.below(2), at(one(s, texts))
	default:
		x.Port = 1 + s.below(8)
	}
	if s.below(30) == 0 {
		x = s.anyPath()
	}
	return x
}

// chance is a call by chance, seldom a wrong one.
func (s *source) chance(l []api.Prefix) call {
	c := call{what: "Put", p: one(s, l), x: s.chancePath()}
	if s.below(40) == 0 {
		c.p = one(s, noPrefixes)
	}
	switch k := s.below(40); {
	case k == 0:
		c.what, c.proto = "Flush", s.below(7)-1
	case k < 12:
		c.what = "Drop"
	}
	return c
}

// TestMixtures: calls by chance, now and then a copy of a rib, with which the calls go on
// too.
func TestMixtures(t *testing.T) {
	s := source(15)
	var l []api.Prefix
	for _, text := range nested {
		l = append(l, pre(text))
	}
	for range 30 {
		made, model := []*rib.Rib{newRib(t)}, []*plain{{}}
		few := shuffled(&s, l)[:2+s.below(len(l)-1)]
		for turn := range 300 {
			k := s.below(len(made))
			if s.below(80) == 0 {
				made, model = append(made, copied(t, made[k])), append(model, model[k].clone())
			}
			expectBoth(t, made[k], model[k], s.chance(few))
			if turn%20 == 0 {
				expectTells(t, made[k], tells(model[k]))
			}
			expectOrdered(t, made[k])
		}
		for k := range made {
			expectTells(t, made[k], tells(model[k]))
		}
	}
}

// TestFullMixtures: calls by chance, of a rib that is nearly full.
func TestFullMixtures(t *testing.T) {
	s := source(90)
	l := ninety()
	for i := range uint64(6) {
		l = append(l, api.Prefix{Addr: api.Addr{Lo: (99 + i) << 24}, Bits: 8})
	}
	refused := 0
	for range 4 {
		r, m := newRib(t), &plain{}
		for _, p := range shuffled(&s, l) {
			expectBoth(t, r, m, call{what: "Put", p: p, x: api.Path{Port: 1}})
		}
		for turn := range 1500 {
			c := s.chance(l)
			if c.what == "Flush" && s.below(3) > 0 {
				continue
			}
			if len(m.Prefixes()) == 90 && len(m.Paths(c.p)) == 0 && isPath(c.p, c.x) && c.what == "Put" {
				refused++
			}
			expectBoth(t, r, m, c)
			if turn%100 == 0 {
				expectTells(t, r, tells(m))
			}
		}
		expectTells(t, r, tells(m))
	}
	if refused < 10 {
		t.Errorf("only %d of the calls were refused for want of room for a prefix", refused)
	}
}

// expectOrdered expects that of the paths to each prefix, and of any two of them that are
// not the same way, exactly one is better.
func expectOrdered(t *testing.T, r *rib.Rib) {
	t.Helper()
	for _, p := range r.Prefixes() {
		l := r.Paths(p)
		for i, x := range l {
			for j, y := range l {
				if rib.Better(x, y) != (i < j) || i != j && sameWay(x, y) {
					t.Fatalf("Q4: of the paths %v to %v, %v is better than %v: %t", l, p, x, y, rib.Better(x, y))
				}
			}
		}
	}
}

// TestAnyOrder: the same paths, put in unlike orders, with others put and dropped between,
// others' Metrics put first, and some put twice, make ribs that tell the same.
func TestAnyOrder(t *testing.T) {
	s := source(4)
	for range 20 {
		want := &plain{}
		for range 200 {
			want.Put(pre(one(&s, nested)), s.chancePath())
		}
		told := tells(want)
		for range 10 {
			r := newRib(t)
			for _, h := range shuffled(&s, want.all) {
				s.disturb(t, r, h)
				expectPut(t, r, h.p, h.x)
			}
			expectTells(t, r, told)
			expectTells(t, r.Copy(), told)
		}
	}
}

// disturb makes some calls that leave the paths of a rib as they are, but for one to be put
// next.
func (s *source) disturb(t *testing.T, r *rib.Rib, next held) {
	t.Helper()
	switch s.below(5) {
	case 0:
		x := next.x
		x.Metric = s.below(65536)
		expectPut(t, r, next.p, x)
	case 1:
		// Each prefix has room for the next one, which is dropped again.
		expectPut(t, r, next.p, next.x)
		expectDrop(t, r, next.p, next.x)
	case 2:
		p := pre("99.0.0.0/8")
		for i := range 4 {
			expectPut(t, r, p, api.Path{Proto: i, Port: 1 + s.below(8)})
		}
		for _, x := range shuffled(s, r.Paths(p)) {
			expectDrop(t, r, p, x)
		}
	case 3:
		for _, p := range r.Prefixes() {
			for _, x := range r.Paths(p) {
				expectPut(t, r, p, x)
			}
		}
	}
}

// TestAllOrders: any four of some paths to one prefix, in each order.
func TestAllOrders(t *testing.T) {
	ways := []api.Path{
		{Proto: 2, Metric: 1, Port: 1, Via: at("fe80::1")}, {Proto: 2, Metric: 1, Port: 1, Via: at("fe80::2")}, {Proto: 2, Metric: 1, Port: 1}, {Proto: 2, Metric: 1, Port: 2},
		{Proto: 2, Metric: 1, Away: true}, {Proto: 2, Metric: 1, Via: at("::2")}, {Proto: 2, Metric: 1, Via: at("1::")}, {Proto: 3, Metric: 0, Port: 1}, {Proto: 1, Metric: 2, Port: 1},
	}
	p := pre("2001:db8::/32")
	permutations(len(ways), func(order []int) {
		// Of the orders that begin with the same four, one is enough.
		if !slices.IsSorted(order[4:]) {
			return
		}
		r, m := newRib(t), &plain{}
		for _, i := range order[:4] {
			expectPut(t, r, p, ways[i])
			m.Put(p, ways[i])
		}
		if l, want := r.Paths(p), m.Paths(p); !slices.Equal(l, want) {
			t.Fatalf("Q4: of %v, Paths is %v, not %v", order[:4], l, want)
		}
	})
}

// TestAllShortMixtures: all sequences of 4 of some calls.
func TestAllShortMixtures(t *testing.T) {
	p, q := ten, pre("10.0.0.0/9")
	calls := []call{
		{what: "Put", p: p, x: api.Path{Proto: 1, Port: 1}}, {what: "Put", p: p, x: api.Path{Proto: 1, Metric: 9, Port: 1}}, {what: "Put", p: p, x: api.Path{Proto: 1, Metric: 5, Port: 2}}, {what: "Put", p: p, x: api.Path{Proto: 2, Away: true}}, {what: "Put", p: q, x: api.Path{Proto: 1, Port: 1}},
		{what: "Drop", p: p, x: api.Path{Proto: 1, Port: 1}}, {what: "Drop", p: p, x: api.Path{Proto: 2, Away: true}}, {what: "Drop", p: q, x: api.Path{Proto: 1, Metric: 3, Port: 1}}, {what: "Flush", proto: 1}, {what: "Flush", proto: 2}, {what: "Put", p: q, x: api.Path{}},
	}
	total := len(calls) * len(calls) * len(calls) * len(calls)
	for n := range total {
		r, m := newRib(t), &plain{}
		for i, turn := n, 0; turn < 4; i, turn = i/len(calls), turn+1 {
			expectBoth(t, r, m, calls[i%len(calls)])
		}
		if r.Count() != m.Count() || !slices.Equal(r.Prefixes(), m.Prefixes()) || !slices.Equal(r.Paths(p), m.Paths(p)) || !slices.Equal(r.Paths(q), m.Paths(q)) {
			t.Fatalf("behind the calls of the number %d there are %v and %v", n, r.Paths(p), r.Paths(q))
		}
	}
}

// TestNoPanic: any calls with any arguments, in any order.
func TestNoPanic(t *testing.T) {
	s := source(99)
	prefixes, addrs := probePrefixes(), probeAddrs()
	for range 10 {
		r, m := newRib(t), &plain{}
		for range 2000 {
			c := call{what: one(&s, []string{"Put", "Put", "Put", "Drop", "Flush"}), p: one(&s, prefixes), x: s.anyPath(), proto: one(&s, anyProtos)}
			if s.below(3) > 0 {
				c.x = s.chancePath()
			}
			if c.what == "Flush" && s.below(10) > 0 {
				c.proto = -9
			}
			expectBoth(t, r, m, c)
			p := api.Prefix{Addr: one(&s, addrs), Bits: one(&s, anyNumbers)}
			if !slices.Equal(r.Paths(p), m.Paths(p)) {
				t.Fatalf("Q3: Paths(%v) is %v", p, r.Paths(p))
			}
		}
		expectTells(t, r, tells(m))
	}
}
