package iface_test

import (
	"fmt"
	"math"
	"regexp"
	"slices"
	"strings"
	"testing"

	"crossway/addr"
	"crossway/api"
	"crossway/iface"
)

// source makes numbers that look like chance, the same ones each time.
type source uint64

func (s *source) next() uint64 {
	*s = *s*6364136223846793005 + 1442695040888963407
	return uint64(*s ^ *s>>29)
}

func (s *source) below(n int) int { return int(s.next() >> 11 % uint64(n)) }

// one is one of a list.
func one[T any](s *source, l []T) T { return l[s.below(len(l))] }

// sets is what a set can do, and a plain one too.
type sets interface {
	Add(name string, mac api.Mac, mtu int) (int, api.Errno)
	Turn(port int, up bool) api.Errno
	Put(port int, a api.Addr, bits int) api.Errno
	Drop(port int, a api.Addr) api.Errno
	Port(port int) (api.Port, bool)
	Locals(port int) []api.Local
	Named(name string) int
	Mine(a api.Addr) int
	Near(a api.Addr) (int, bool)
	Source(port int, to api.Addr) (api.Addr, bool)
}

// probeTexts are addresses near which the tests have others, of all classes.
var probeTexts = []string{
	"10.0.0.0", "10.0.0.1", "10.0.0.2", "10.0.0.9", "10.0.1.1", "10.1.2.3", "11.0.0.1", "138.0.0.1", "169.254.0.1", "240.0.0.1", "127.0.0.1", "224.0.0.5", "0.0.0.0", "255.255.255.255",
	"fe80::1", "fe80::2", "2001:db8::1", "2001:db8::9", "2001:db8:1::1", "a001:db8::1", "::2", "::a00:1", "::", "::1", "ff02::1",
}

// probes are those, and what is no address.
func probes() []api.Addr {
	all := []api.Addr{{Lo: 10<<24 + 1 + 1<<32}, {Hi: 1, Lo: 10<<24 + 1}, {Hi: 0xfe80 << 48, Lo: 1}}
	for _, text := range probeTexts {
		all = append(all, at(text))
	}
	return all
}

// someNames are names that the tests have, and some that may not be.
var someNames = []string{"p1", "p2", "p3", "p8", "a", "b", "c", "eth0", "abcdefgh", "new", "", "9a", "P1", "abcdefghi", "aé", "a\xff"}

// tells is all that a set tells, as text, so that it can be compared.
func tells(s sets) string {
	var text strings.Builder
	all := probes()
	for port := -1; port <= 9; port++ {
		p, ok := s.Port(port)
		fmt.Fprintln(&text, "port", port, p, ok, s.Locals(port))
		for _, a := range all {
			from, ok := s.Source(port, a)
			fmt.Fprint(&text, from.Six, " ", from.Hi, " ", from.Lo, " ", ok, " ")
		}
	}
	for _, name := range someNames {
		fmt.Fprint(&text, s.Named(name), " ")
	}
	for _, a := range all {
		port, ok := s.Near(a)
		fmt.Fprint(&text, s.Mine(a), " ", port, " ", ok, " ")
	}
	return text.String()
}

// expectTells expects that a set tells the same as was told before.
func expectTells(t *testing.T, s sets, want string) {
	t.Helper()
	if got := tells(s); got != want {
		t.Fatalf("it tells\n%s\nand not\n%s", got, want)
	}
}

// held is a local in a plain set.
type held struct {
	port, bits int
	addr       api.Addr
}

// plain is a set in another way: one list of all locals, in the order in which they were
// added, which is gone through for each question by the words of the chapter.
type plain struct {
	ports []api.Port
	all   []held
}

func (p *plain) clone() *plain { return &plain{slices.Clone(p.ports), slices.Clone(p.all)} }

func (p *plain) is(port int) bool { return port >= 1 && port <= len(p.ports) }

// oneName is the form of a name.
var oneName = regexp.MustCompile(`^[a-z][a-z0-9]{0,7}$`)

func (p *plain) Add(name string, mac api.Mac, mtu int) (int, api.Errno) {
	if !oneName.MatchString(name) || p.Named(name) > 0 {
		return 0, api.ErrIfaceName
	}
	if mac == 0 || mac >= 1<<48 || mac/(1<<40)%2 == 1 || mtu < 68 || mtu > 1500 {
		return 0, api.ErrArg
	}
	if len(p.ports) == 8 {
		return 0, api.ErrIfaceFull
	}
	p.ports = append(p.ports, api.Port{Name: name, Mac: mac, Mtu: mtu})
	return len(p.ports), api.OK
}

func (p *plain) Turn(port int, up bool) api.Errno {
	if !p.is(port) {
		return api.ErrIfaceNone
	}
	p.ports[port-1].Up = up
	return api.OK
}

func (p *plain) Put(port int, a api.Addr, bits int) api.Errno {
	if !p.is(port) {
		return api.ErrIfaceNone
	}
	class := addr.Class(a)
	if class != api.ClassLink && class != api.ClassPlain || bits < 1 || bits > bitsOf(a) || p.Mine(a) > 0 || a.Six && p.ports[port-1].Mtu < 1280 {
		return api.ErrIfaceAddr
	}
	if len(p.Locals(port)) == 8 {
		return api.ErrIfaceFull
	}
	p.all = append(p.all, held{port, bits, a})
	return api.OK
}

func (p *plain) Drop(port int, a api.Addr) api.Errno {
	if !p.is(port) || p.Mine(a) != port {
		return api.ErrIfaceNone
	}
	p.all = slices.DeleteFunc(p.all, func(h held) bool { return h.addr == a })
	return api.OK
}

func (p *plain) Port(port int) (api.Port, bool) {
	if !p.is(port) {
		return api.Port{}, false
	}
	return p.ports[port-1], true
}

func (p *plain) Locals(port int) (l []api.Local) {
	for _, h := range p.all {
		if h.port == port {
			l = append(l, api.Local{Addr: h.addr, Bits: h.bits})
		}
	}
	return l
}

func (p *plain) Named(name string) int {
	return 1 + slices.IndexFunc(p.ports, func(x api.Port) bool { return x.Name == name })
}

func (p *plain) Mine(a api.Addr) int {
	for _, h := range p.all {
		if h.addr == a {
			return h.port
		}
	}
	return 0
}

// holds tells whether the first bits of an address are those of a local.
func (h held) holds(a api.Addr) bool {
	if !addr.Valid(a) || a.Six != h.addr.Six {
		return false
	}
	digits := func(x api.Addr) string {
		if x.Six {
			return fmt.Sprintf("%064b%064b", x.Hi, x.Lo)
		}
		return fmt.Sprintf("%032b", x.Lo)
	}
	return strings.HasPrefix(digits(a), digits(h.addr)[:h.bits])
}

func (p *plain) Near(a api.Addr) (int, bool) {
	for bits := 128; bits > 0; bits-- {
		for port := range p.ports {
			for _, h := range p.all {
				if h.port == port+1 && p.ports[port].Up && h.bits == bits && h.holds(a) {
					return port + 1, true
				}
			}
		}
	}
	return 0, false
}

func (p *plain) Source(port int, to api.Addr) (api.Addr, bool) {
	if !addr.Valid(to) {
		return api.Addr{}, false
	}
	for bits := 128; bits > 0; bits-- {
		for _, h := range p.all {
			if h.port == port && h.bits == bits && h.holds(to) {
				return h.addr, true
			}
		}
	}
	for _, h := range p.all {
		if h.port == port && h.addr.Six == to.Six {
			return h.addr, true
		}
	}
	return api.Addr{}, false
}

// call is one call that changes a set; the fields that it has no use for are not looked at.
type call struct {
	what string
	name string
	mac  api.Mac
	n    int // a port, or, of Add, an Mtu
	up   bool
	addr api.Addr
	bits int
}

// do makes one call, and tells what it returned.
func (c call) do(s sets) (int, api.Errno) {
	switch c.what {
	case "Add":
		return s.Add(c.name, c.mac, c.n)
	case "Turn":
		return 0, s.Turn(c.n, c.up)
	case "Put":
		return 0, s.Put(c.n, c.addr, c.bits)
	}
	return 0, s.Drop(c.n, c.addr)
}

// expectBoth makes one call of both, and expects the same result.
func expectBoth(t *testing.T, s *iface.Set, p *plain, c call) {
	t.Helper()
	n, e := c.do(s)
	if m, f := c.do(p); n != m || e != f {
		t.Fatalf("%v is %d %d, not %d %d", c, n, e, m, f)
	}
}

// chance is a call by chance, seldom a wrong one.
func (s *source) chance() call {
	c := call{n: 1 + s.below(8), up: s.below(3) > 0, addr: at(one(s, probeTexts)), bits: 1 + s.below(32)}
	if c.addr.Six && s.below(2) == 0 {
		c.bits += 32 * s.below(4)
	}
	if s.below(4) == 0 {
		c.bits = one(s, []int{8, 24, 64})
	}
	if s.below(30) == 0 {
		c.n, c.bits, c.addr = one(s, noPorts(8)), one(s, noBits), one(s, wrongAddrs)
	}
	switch k := s.below(12); {
	case k == 0:
		c.what, c.name = "Add", one(s, append(slices.Clone(goodNames), someNames...))
		c.mac, c.n = one(s, []api.Mac{2, 4, 254 << 40, 2, 4, 0, 1 << 40, 1 << 48}), one(s, []int{1500, 1280, 1500, 1279, 68, 67, 1501})
	case k < 4:
		c.what = "Turn"
	case k < 9:
		c.what = "Put"
	default:
		c.what = "Drop"
	}
	return c
}

// TestMixtures: calls by chance, now and then a copy of a set, with which the calls go on
// too.
func TestMixtures(t *testing.T) {
	s := source(14)
	for range 60 {
		made, model := []*iface.Set{iface.New()}, []*plain{{}}
		for i := range s.below(9) {
			expectBoth(t, made[0], model[0], call{what: "Add", name: nameOf(i + 1), mac: 2, n: one(&s, []int{68, 1279, 1280, 1500, 1500})})
		}
		for turn := range 240 {
			k := s.below(len(made))
			if s.below(60) == 0 {
				made, model = append(made, copied(t, made[k])), append(model, model[k].clone())
			}
			c := s.chance()
			expectBoth(t, made[k], model[k], c)
			if turn%8 == 0 {
				expectTells(t, made[k], tells(model[k]))
			}
			expectOneEach(t, made[k])
		}
		for k := range made {
			expectTells(t, made[k], tells(model[k]))
		}
	}
}

// expectOneEach expects that each address, and each name, is that of one port at most.
func expectOneEach(t *testing.T, s *iface.Set) {
	t.Helper()
	addrs, names := map[api.Addr]int{}, map[string]int{}
	for port := 1; port <= 8; port++ {
		p, ok := s.Port(port)
		if ok && (names[p.Name] != 0 || s.Named(p.Name) != port) {
			t.Fatalf("O5: the name %s is that of %d, %d and %d", p.Name, port, names[p.Name], s.Named(p.Name))
		}
		names[p.Name] = port
		for _, l := range s.Locals(port) {
			if addrs[l.Addr] != 0 || s.Mine(l.Addr) != port {
				t.Fatalf("O5: the address %v is that of %d, %d and %d", l.Addr, port, addrs[l.Addr], s.Mine(l.Addr))
			}
			addrs[l.Addr] = port
		}
	}
}

// TestAllShortMixtures: all sequences of 4 of some calls, of a set with two ports.
func TestAllShortMixtures(t *testing.T) {
	a, b := at("10.0.0.1"), at("fe80::1")
	calls := []call{
		{what: "Put", n: 1, addr: a, bits: 24}, {what: "Put", n: 2, addr: a, bits: 8}, {what: "Put", n: 2, addr: b, bits: 64}, {what: "Put", n: 1, addr: at("10.0.0.2"), bits: 24},
		{what: "Drop", n: 1, addr: a}, {what: "Drop", n: 2, addr: a}, {what: "Drop", n: 2, addr: b},
		{what: "Turn", n: 1, up: true}, {what: "Turn", n: 1}, {what: "Turn", n: 2, up: true}, {what: "Add", name: "new", mac: 2, n: 100},
	}
	const length = 4
	var chosen [length]int
	for {
		s, p := ports(t, 2), &plain{}
		for i := 1; i <= 2; i++ {
			call{what: "Add", name: nameOf(i), mac: api.Mac(2 * i), n: 1500}.do(p)
		}
		for _, n := range chosen {
			expectBoth(t, s, p, calls[n])
		}
		expectSame(t, s, p, chosen[:])
		i := length - 1
		for i >= 0 && chosen[i] == len(calls)-1 {
			chosen[i] = 0
			i--
		}
		if i < 0 {
			return
		}
		chosen[i]++
	}
}

// expectSame expects that a small set tells the same as a plain one, behind some calls.
func expectSame(t *testing.T, s *iface.Set, p *plain, behind []int) {
	t.Helper()
	for port := 0; port <= 4; port++ {
		x, ok := s.Port(port)
		if y, is := p.Port(port); x != y || ok != is || !slices.Equal(s.Locals(port), p.Locals(port)) {
			t.Fatalf("behind %v, the port %d is %v %t, not %v %t", behind, port, x, ok, y, is)
		}
	}
	for _, text := range []string{"10.0.0.1", "10.0.0.2", "10.0.0.9", "10.1.0.0", "fe80::1"} {
		a := at(text)
		if n, m := s.Mine(a), p.Mine(a); n != m {
			t.Fatalf("behind %v, %s is that of %d, not of %d", behind, text, n, m)
		}
		n, ok := s.Near(a)
		if m, is := p.Near(a); n != m || ok != is {
			t.Fatalf("behind %v, %s is near %d %t, not %d %t", behind, text, n, ok, m, is)
		}
	}
}

// TestNoPanic: any calls with any arguments, in any order.
func TestNoPanic(t *testing.T) {
	s := source(99)
	numbers := append(noPorts(3), 1, 2, 3, 7, 8, 32, 33, 64, 67, 68, 128, 129, 1279, 1280, 1500, 1501)
	macs := []api.Mac{0, 1, 2, 1 << 40, 2 << 40, 1<<48 - 1, 1 << 48, math.MaxUint64}
	names := append(slices.Clone(badNames), goodNames...)
	addrs := probes()
	for range 20 {
		set, p := iface.New(), &plain{}
		for range 3000 {
			c := call{what: one(&s, []string{"Add", "Turn", "Put", "Drop"}), name: one(&s, names), mac: one(&s, macs), n: one(&s, numbers), up: s.below(2) == 0, addr: one(&s, addrs), bits: one(&s, numbers)}
			expectBoth(t, set, p, c)
			n, a := one(&s, numbers), one(&s, addrs)
			x, ok := set.Source(n, a)
			if y, is := p.Source(n, a); x != y || ok != is {
				t.Fatalf("O4: Source(%d, %v) is %v %t, not %v %t", n, a, x, ok, y, is)
			}
			if !slices.Equal(set.Locals(n), p.Locals(n)) {
				t.Fatalf("O3: Locals(%d) is %v, not %v", n, set.Locals(n), p.Locals(n))
			}
		}
		expectTells(t, set, tells(p))
	}
}
