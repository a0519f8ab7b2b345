package neigh_test

import (
	"fmt"
	"math"
	"slices"
	"testing"

	"crossway/addr"
	"crossway/api"
	"crossway/neigh"
)

// source makes numbers that look like chance, the same ones each time.
type source uint64

func (s *source) next() uint64 {
	*s = *s*6364136223846793005 + 1442695040888963407
	return uint64(*s ^ *s>>29)
}

func (s *source) below(n int) int { return int(s.next() >> 11 % uint64(n)) }

// one is one of a list.
func one[T any](s *source, l []T) T { return l[s.below(len(l))] }

// at is the address that a text is.
func at(s string) api.Addr {
	a, e := addr.Parse(s)
	if e != api.OK {
		panic(s)
	}
	return a
}

// ats are the addresses that some texts are.
func ats(texts ...string) (l []api.Addr) {
	for _, s := range texts {
		l = append(l, at(s))
	}
	return l
}

// four and six are a neighbour of each family.
var four, six = at("10.0.0.2"), at("fe80::2")

// rightAddrs are addresses that neighbours may have, also those beside which are others, in
// their order.
var rightAddrs = ats("0.0.0.1", "1.0.0.0", "10.0.0.2", "126.255.255.255", "128.0.0.0", "169.253.255.255", "169.254.0.0", "169.254.0.1", "169.254.255.255", "169.255.0.0", "223.255.255.255", "240.0.0.0", "255.255.255.254",
	"::2", "::a00:2", "::1:0:0:0:1", "2001:db8::2", "fe7f:ffff:ffff:ffff:ffff:ffff:ffff:ffff", "fe80::", "fe80::2", "febf:ffff:ffff:ffff:ffff:ffff:ffff:ffff", "fec0::", "feff:ffff:ffff:ffff:ffff:ffff:ffff:ffff")

// wrongAddrs are those that none has: of each other class, some like a right one.
var wrongAddrs = append(ats("0.0.0.0", "127.0.0.0", "127.0.0.1", "127.255.255.255", "224.0.0.0", "224.0.0.5", "239.255.255.255", "255.255.255.255", "::", "::1", "ff00::", "ff02::1", "ff02::1:ff00:2", "ffff:ffff:ffff:ffff:ffff:ffff:ffff:ffff"),
	api.Addr{Lo: 1 << 32}, api.Addr{Lo: 10<<24 + 2 + 1<<32}, api.Addr{Hi: 1, Lo: 10<<24 + 2}, api.Addr{Hi: 0xfe80 << 48, Lo: 2}, api.Addr{Hi: math.MaxUint64, Lo: math.MaxUint64}, api.Addr{Hi: 1}, api.Addr{Lo: math.MaxUint64})

var rightPorts = []int{1, 2, 3, 4, 5, 6, 7, 8}

var wrongPorts = []int{math.MinInt, math.MinInt + 1, math.MinInt32, -1 << 32, -8, -1, 0, 9, 10, 16, 256, 257, math.MaxInt32, 1 << 32, 1<<32 + 1, 1 << 62, math.MaxInt - 1, math.MaxInt}

var rightMacs = []api.Mac{1, 2, 5, 1 << 32, 1 << 40, 1<<40 + 1, 1 << 47, 1<<48 - 2, 1<<48 - 1}

var wrongMacs = []api.Mac{0, 1 << 48, 1<<48 + 1, 1<<48 + 5, 1<<49 - 1, 1 << 49, 1 << 62, 1 << 63, 1<<63 + 5, math.MaxUint64 - 1, math.MaxUint64}

// bools are both of them.
var bools = []bool{false, true}

// sent, asked, failed and lost are an action of each kind.
func sent(port int, a api.Addr, mac api.Mac, packet string) api.Act {
	return api.Act{Kind: 1, Port: port, To: a, Mac: mac, Packet: packet}
}

func asked(port int, a api.Addr, mac api.Mac) api.Act {
	return api.Act{Kind: 2, Port: port, To: a, Mac: mac}
}

func failed(port int, a api.Addr, packet string) api.Act {
	return api.Act{Kind: 3, Port: port, To: a, Packet: packet}
}

func lost(port int, a api.Addr, packet string) api.Act {
	return api.Act{Kind: 4, Port: port, To: a, Packet: packet}
}

// show is actions as a text.
func show(acts []api.Act) string {
	s := fmt.Sprint(len(acts), " actions")
	for _, x := range acts {
		s += fmt.Sprintf(" {%d %d %s mac %d %.20q}", x.Kind, x.Port, addr.Print(x.To), x.Mac, x.Packet)
	}
	return s
}

// expect holds actions against those that there are to be.
func expect(t *testing.T, got []api.Act, want ...api.Act) {
	t.Helper()
	if !slices.Equal(got, want) {
		t.Fatalf("there are %s\nand not %s", show(got), show(want))
	}
}

// pair is a cache and a plain one, to which the same is done.
type pair struct {
	t *testing.T
	c *neigh.Cache
	p *plain
}

// made is a new cache that is there.
func made(t *testing.T) *neigh.Cache {
	t.Helper()
	c := neigh.New()
	if c == nil {
		t.Fatal("X1: New is nil")
	}
	return c
}

// newPair is a new cache, and a plain one.
func newPair(t *testing.T) pair {
	t.Helper()
	return pair{t, made(t), &plain{}}
}

// both holds what was done to a cache, and to a plain one, against each other.
func (b pair) both(what string, got []api.Act, e api.Errno, want []api.Act, f api.Errno) []api.Act {
	b.t.Helper()
	if !slices.Equal(got, want) || e != f {
		b.t.Fatalf("%s is\n%s, error %d,\nand not %s, error %d", what, show(got), e, show(want), f)
	}
	return got
}

func (b pair) send(port int, a api.Addr, packet string) []api.Act {
	b.t.Helper()
	got, e := b.c.Send(port, a, packet)
	want, f := b.p.Send(port, a, packet)
	return b.both(fmt.Sprintf("X1, X2: Send(%d, %s, %.20q)", port, addr.Print(a), packet), got, e, want, f)
}

func (b pair) learn(port int, a api.Addr, mac api.Mac) []api.Act {
	b.t.Helper()
	got, e := b.c.Learn(port, a, mac)
	want, f := b.p.Learn(port, a, mac)
	return b.both(fmt.Sprintf("X1, X3: Learn(%d, %s, %d)", port, addr.Print(a), mac), got, e, want, f)
}

func (b pair) tell(port int, a api.Addr, mac api.Mac, answer, over bool) []api.Act {
	b.t.Helper()
	got, e := b.c.Tell(port, a, mac, answer, over)
	want, f := b.p.Tell(port, a, mac, answer, over)
	return b.both(fmt.Sprintf("X1, X4: Tell(%d, %s, %d, %t, %t)", port, addr.Print(a), mac, answer, over), got, e, want, f)
}

func (b pair) tick() []api.Act {
	b.t.Helper()
	return b.both("X5: Tick()", b.c.Tick(), 0, b.p.Tick(), 0)
}

func (b pair) drop(port int) []api.Act {
	b.t.Helper()
	return b.both(fmt.Sprintf("X5: Drop(%d)", port), b.c.Drop(port), 0, b.p.Drop(port), 0)
}

// ticks lets so many ticks pass, at which nothing is done.
func (b pair) ticks(n int) {
	b.t.Helper()
	for range n {
		expect(b.t, b.tick())
	}
}

// is expects a state and a mac.
func (b pair) is(port int, a api.Addr, state int, mac api.Mac) {
	b.t.Helper()
	if s, m := b.c.State(port, a); s != state || m != mac {
		b.t.Fatalf("X6: State(%d, %s) is %d %d, and not %d %d", port, addr.Print(a), s, m, state, mac)
	}
}

// same expects that all is as in the plain cache, for all ports and for probes of all kinds.
func (b pair) same() {
	b.t.Helper()
	if got, want := b.c.Known(), b.p.Known(); !slices.Equal(got, want) {
		b.t.Fatalf("X6: Known() is %v, and not %v", got, want)
	}
	for _, r := range b.p.all {
		b.is(r.port, r.addr, b.p.state(r), r.mac)
	}
	for port := -1; port <= 10; port++ {
		for _, a := range []api.Addr{four, six, at("10.0.0.3"), rightAddrs[0], wrongAddrs[0], wrongAddrs[15]} {
			state, mac := b.p.State(port, a)
			b.is(port, a, state, mac)
		}
	}
}

// end lets the time pass till nothing more happens, and drops what is left then.
func (b pair) end() {
	b.t.Helper()
	for range 45 {
		b.tick()
	}
	b.same()
	for port := range 10 {
		b.drop(port)
	}
	b.same()
	if l := b.c.Known(); len(l) > 0 {
		b.t.Fatalf("X5: %v are left behind each Drop", l)
	}
}

// become lets a neighbour that is not known come to a state: with the packet "w" that
// waits if it is Asked, and with that mac otherwise. (For Probe, five ticks pass.)
func (b pair) become(port int, a api.Addr, state int, mac api.Mac) {
	b.t.Helper()
	switch state {
	case api.NeighAsked:
		expect(b.t, b.send(port, a, "w"), asked(port, a, 0))
		mac = 0
	case api.NeighReach:
		expect(b.t, b.learn(port, a, mac))
		expect(b.t, b.tell(port, a, mac, true, true))
	case api.NeighStale, api.NeighDelay, api.NeighProbe:
		expect(b.t, b.learn(port, a, mac))
	}
	if state == api.NeighDelay || state == api.NeighProbe {
		expect(b.t, b.send(port, a, "d"), sent(port, a, mac, "d"))
	}
	if state == api.NeighProbe {
		for range 5 {
			b.tick()
		}
	}
	if state == api.NeighNone {
		mac = 0
	}
	b.is(port, a, state, mac)
}

// allStates brings neighbours of one port to each state, with addresses that follow on a.
func (b pair) allStates(port int, a api.Addr) {
	b.t.Helper()
	for _, state := range []int{5, 4, 3, 2, 1} { // Probe comes first, as ticks pass for it
		b.become(port, api.Addr{Six: a.Six, Hi: a.Hi, Lo: a.Lo + uint64(state)}, state, api.Mac(10+state))
	}
}

// fill adds neighbours, which are Stale, until there are so many.
func (b pair) fill(count int) {
	b.t.Helper()
	for i := 0; len(b.p.all) < count; i++ {
		b.learn(1+i%8, api.Addr{Lo: uint64(20<<24 + i)}, api.Mac(100+i))
	}
	b.same()
}

// fewAndMany are caches of several kinds: a new one, one with neighbours of each state, and
// such with 63 and 64 neighbours.
func fewAndMany(t *testing.T) []pair {
	t.Helper()
	l := []pair{newPair(t)}
	for _, count := range []int{10, 63, 64} {
		b := newPair(t)
		b.allStates(1, four)
		b.allStates(8, six)
		b.fill(count)
		l = append(l, b)
	}
	return l
}

func TestExamples(t *testing.T) {
	b := newPair(t)
	expect(t, b.send(1, four, "a"), asked(1, four, 0))
	expect(t, b.send(1, four, "b"))
	expect(t, b.send(1, four, "c"))
	expect(t, b.send(1, four, "d"), lost(1, four, "a"))
	expect(t, b.tell(1, four, 5, true, true), sent(1, four, 5, "b"), sent(1, four, 5, "c"), sent(1, four, 5, "d"))
	b.is(1, four, 2, 5)
	b.ticks(30)
	b.is(1, four, 3, 5)
	expect(t, b.send(1, four, "e"), sent(1, four, 5, "e"))
	b.is(1, four, 4, 5)
	b.ticks(4)
	for range 3 {
		expect(t, b.tick(), asked(1, four, 5))
	}
	b.ticks(1)
	b.is(1, four, 0, 0)

	expect(t, b.send(2, six, "x"), asked(2, six, 0))
	expect(t, b.tick(), asked(2, six, 0))
	expect(t, b.tick(), asked(2, six, 0))
	expect(t, b.tick(), failed(2, six, "x"))
	b.end()
}
