package neigh_test

import (
	"strconv"
	"testing"

	"crossway/api"
)

// some is which neighbours, macs and ports a mixture has.
type some struct {
	ports []int
	addrs []api.Addr
	macs  []api.Mac
}

// many are more neighbours than there is room for.
func many() some {
	x := some{ports: rightPorts, macs: rightMacs}
	for n := range uint64(12) {
		x.addrs = append(x.addrs, api.Addr{Lo: 10<<24 + n}, api.Addr{Six: true, Hi: n, Lo: 5})
	}
	return x
}

var (
	single = some{[]int{1}, []api.Addr{four}, []api.Mac{5, 6}}
	few    = some{[]int{1, 8}, []api.Addr{four, six, at("fe80::3")}, []api.Mac{5, 6, 7}}
)

// ledger keeps account of what becomes of the packets that are sent.
type ledger struct {
	t       *testing.T
	ended   map[string]int             // by the packets: in how many actions each is
	waiting map[string]int             // by the neighbours: how many packets wait
	whose   map[string]string          // the neighbours of the packets
	actions map[int]int                // how many of each kind there were
	name    func(int, api.Addr) string // of a neighbour
	count   int
}

func newLedger(t *testing.T) *ledger {
	name := func(port int, a api.Addr) string {
		return strconv.Itoa(port) + " " + strconv.FormatBool(a.Six) + " " + strconv.FormatUint(a.Hi, 16) + " " + strconv.FormatUint(a.Lo, 16)
	}
	return &ledger{t, map[string]int{}, map[string]int{}, map[string]string{}, map[int]int{}, name, 0}
}

// packet is a new one, for a neighbour.
func (l *ledger) packet(port int, a api.Addr) string {
	p := number(l.count)
	l.count++
	l.ended[p], l.whose[p] = 0, l.name(port, a)
	l.waiting[l.whose[p]]++
	return p
}

// enter takes account of actions.
func (l *ledger) enter(acts []api.Act) {
	l.t.Helper()
	for _, x := range acts {
		l.actions[x.Kind]++
		if x.Kind == api.ActAsk {
			continue
		}
		l.ended[x.Packet]++
		l.waiting[l.whose[x.Packet]]--
		if whose, ok := l.whose[x.Packet]; !ok || l.ended[x.Packet] != 1 || whose != l.name(x.Port, x.To) {
			l.t.Fatalf("X7: %s, of a packet for %q, which is in %d", show([]api.Act{x}), whose, l.ended[x.Packet])
		}
	}
	for whose, n := range l.waiting {
		if n < 0 || n > 3 {
			l.t.Fatalf("X7: %d packets wait for %s", n, whose)
		}
	}
}

// close expects that no packet waits any more, and that there were actions of each kind.
func (l *ledger) close(kinds ...int) {
	l.t.Helper()
	for p, n := range l.ended {
		if n != 1 {
			l.t.Fatalf("X7: the packet %s is in %d actions", p, n)
		}
	}
	for _, kind := range kinds {
		if l.actions[kind] == 0 {
			l.t.Fatalf("X7: there were no actions of the kind %d", kind)
		}
	}
}

// change does one thing, of whatever kind, to a cache and a plain one.
func change(b pair, s *source, l *ledger, x some) {
	b.t.Helper()
	port, a, mac := one(s, x.ports), one(s, x.addrs), one(s, x.macs)
	switch s.below(24) {
	case 0, 1, 2, 3, 4, 5, 6, 7:
		l.enter(b.send(port, a, l.packet(port, a)))
	case 8, 9:
		l.enter(b.learn(port, a, mac))
	case 10, 11, 12:
		l.enter(b.tell(port, a, mac, s.below(2) == 0, s.below(2) == 0))
	case 13:
		refuses(b.t, b, one(s, wrongPorts), a)
		refuses(b.t, b, port, one(s, wrongAddrs))
		refusesMac(b.t, b, port, a, one(s, wrongMacs))
	case 14:
		for range s.below(40) {
			l.enter(b.tick())
		}
	case 15:
		if s.below(8) == 0 {
			l.enter(b.drop(port))
		}
	case 16, 17, 18, 19, 20:
		l.enter(b.tick())
	default: // something for one that is there
		if known := b.c.Known(); len(known) > 0 {
			y := one(s, known)
			l.enter(b.send(y.Port, y.Addr, l.packet(y.Port, y.Addr)))
		}
	}
}

// Long mixtures of all calls, for one neighbour, a few, and more than there is room for:
// each packet is in exactly one action, and never do more than three wait.
func TestMixtures(t *testing.T) {
	for n, x := range []some{single, few, many()} {
		for seed := range 6 {
			s, b, l := source(10*n+seed), newPair(t), newLedger(t)
			for step := range 4000 {
				change(b, &s, l, x)
				if step%10 == 0 {
					b.same()
				}
			}
			for range 3 {
				l.enter(b.tick())
			}
			l.close(1, 2, 3, 4) // nothing waits any more
			b.end()
		}
	}
}

// A mixture in which a cache is full most of the time.
func TestFullMixtures(t *testing.T) {
	s, b, l, full := source(77), newPair(t), newLedger(t), 0
	x := many()
	for range 400 {
		for range 60 {
			port, a := one(&s, x.ports), one(&s, x.addrs)
			if s.below(2) == 0 {
				l.enter(b.send(port, a, l.packet(port, a)))
			} else {
				l.enter(b.learn(port, a, one(&s, x.macs)))
			}
		}
		if len(b.c.Known()) == 64 {
			full++
		}
		for range s.below(12) {
			change(b, &s, l, x)
		}
		b.same()
	}
	if full < 100 {
		t.Fatalf("the cache is full %d times only", full)
	}
	for _, port := range rightPorts {
		l.enter(b.drop(port))
	}
	l.close(1, 2, 3, 4)
	b.same()
}

// step does a thing of a few kinds to one neighbour.
func step(b pair, l *ledger, kind int) {
	b.t.Helper()
	switch {
	case kind == 0:
		l.enter(b.send(1, four, l.packet(1, four)))
	case kind == 1:
		l.enter(b.tick())
	case kind == 2:
		for range 4 {
			l.enter(b.tick())
		}
	case kind == 3:
		for range 29 {
			l.enter(b.tick())
		}
	case kind == 4:
		l.enter(b.drop(1))
	case kind < 7:
		l.enter(b.learn(1, four, api.Mac(kind)))
	default:
		l.enter(b.tell(1, four, api.Mac(5+kind%2), kind&2 > 0, kind&4 > 0))
	}
	state, mac := b.p.State(1, four)
	b.is(1, four, state, mac)
}

// All short mixtures of these, and what follows.
func TestShortMixtures(t *testing.T) {
	const kinds, length = 15, 4
	for code := range kinds * kinds * kinds * kinds {
		b, l := newPair(t), newLedger(t)
		for rest, n := code, 0; n < length; n++ {
			step(b, l, rest%kinds)
			rest /= kinds
		}
		for range 9 {
			step(b, l, 1)
		}
		l.close()
	}
}

// Of many neighbours of whom nobody answers, each is asked three times, and its packets
// fail by the third tick after the first of them, or are lost ahead of that.
func TestNobodyAnswers(t *testing.T) {
	for seed := range 20 {
		s, b, l, x := source(200+seed), newPair(t), newLedger(t), many()
		began, asks := map[string]int{}, map[string]int{}
		enter := func(now int, acts []api.Act) {
			l.enter(acts)
			for _, y := range acts {
				name := l.name(y.Port, y.To)
				switch y.Kind {
				case api.ActAsk:
					if _, was := began[name]; !was {
						began[name] = now
					}
					asks[name]++
				case api.ActFail:
					if asks[name] != 3 || now-began[name] != 3 {
						t.Fatalf("X7: %s fails behind %d requests and %d ticks", name, asks[name], now-began[name])
					}
				}
			}
			for name, from := range began {
				if l.waiting[name] == 0 {
					delete(began, name)
					delete(asks, name)
				} else if now-from >= 3 {
					t.Fatalf("X7: packets wait for %s behind %d ticks", name, now-from)
				}
			}
		}
		for now := range 60 {
			for range s.below(60) {
				port, a := one(&s, x.ports), one(&s, x.addrs)
				enter(now, b.send(port, a, l.packet(port, a)))
			}
			enter(now+1, b.tick())
		}
		for now := range 3 {
			enter(61+now, b.tick())
		}
		l.close(2, 3, 4)
		b.end()
	}
}

// No call panics, and each ends, whatever it is given.
func TestNothingPanics(t *testing.T) {
	ports := append([]int{1, 8}, wrongPorts...)
	addrs := append([]api.Addr{four, six}, wrongAddrs...)
	macs := append([]api.Mac{1, 1<<48 - 1}, wrongMacs...)
	for _, b := range fewAndMany(t) {
		for _, port := range ports {
			for _, a := range addrs {
				b.send(port, a, "\xff")
				for i, mac := range macs {
					b.learn(port, a, mac)
					b.tell(port, a, mac, i%2 == 0, i%3 == 0)
					b.send(port, a, "")
				}
			}
			b.tick()
			b.drop(port)
			b.same()
		}
		b.end()
	}
}
