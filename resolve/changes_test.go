package resolve_test

import (
	"slices"
	"testing"

	"crossway/api"
	"crossway/prefix"
	"crossway/resolve"
)

// gone and set are a change of each kind.
func gone(x api.Entry) api.Change { return api.Change{Gone: true, Entry: x} }
func set(x api.Entry) api.Change  { return api.Change{Entry: x} }

// orderly are prefixes in their order, some with the same address.
var orderly = []string{"0.0.0.0/0", "0.0.0.0/1", "0.0.0.0/32", "10.0.0.0/8", "10.0.0.0/9", "10.1.0.0/16", "255.255.255.255/32", "::/0", "::/1", "::a00:0/104", "2001:db8::/32", "2001:db8::/33", "ffff::/16"}

// orderlyEntries are entries for these, with the hop of their number.
func orderlyEntries() []api.Entry {
	var l []api.Entry
	for i, p := range orderly {
		l = append(l, entry(p, hop(i+1)))
	}
	return l
}

func TestChangesOfEmpty(t *testing.T) {
	l := orderlyEntries()
	for _, none := range [][]api.Entry{nil, {}} {
		expectChanges(t, none, none)
		expectChanges(t, nil, none)
		for n := range len(l) + 1 {
			var goes, come []api.Change
			for _, x := range l[:n] {
				goes, come = append(goes, gone(x)), append(come, set(x))
			}
			expectChanges(t, l[:n], none, goes...)
			expectChanges(t, none, l[:n], come...)
			expectChanges(t, l[:n], l[:n])
		}
	}
}

// TestChangesOfOne: one entry goes, comes or changes, at each place.
func TestChangesOfOne(t *testing.T) {
	l := orderlyEntries()
	for i, x := range l {
		without := slices.Delete(slices.Clone(l), i, i+1)
		expectChanges(t, l, without, gone(x))
		expectChanges(t, without, l, set(x))
		other := slices.Clone(l)
		other[i].Hop = nowhere
		expectChanges(t, l, other, set(other[i]))
		expectChanges(t, other, l, set(x))
		expectChanges(t, without, other, set(other[i]))
		expectChanges(t, other, without, gone(other[i]))
	}
}

// TestChangesOfAHopInOneField: hops are unlike if one field is, also the family or a half of
// the neighbour.
func TestChangesOfAHopInOneField(t *testing.T) {
	hops := []api.Hop{{}, {Port: 1}, {Port: 2}, {Away: true}, {Port: 1, Away: true}, {Port: 1, Via: api.Addr{Six: true}}, {Port: 1, Via: api.Addr{Hi: 1}}, {Port: 1, Via: api.Addr{Lo: 1}}, {Port: 1, Via: api.Addr{Six: true, Lo: 1}}, {Port: 1, Via: api.Addr{Six: true, Hi: 1, Lo: 1}}, {Via: api.Addr{Lo: 1}}}
	for i, x := range hops {
		for j, y := range hops {
			old, now := []api.Entry{entry("10.0.0.0/8", x)}, []api.Entry{entry("10.0.0.0/8", y)}
			if i == j {
				expectChanges(t, old, now)
			} else {
				expectChanges(t, old, now, set(now[0]))
			}
		}
	}
}

// TestChangesInTurn: entries that go, come, change and stay, one behind the other.
func TestChangesInTurn(t *testing.T) {
	l := orderlyEntries()
	for shift := range 4 {
		var old, now []api.Entry
		var want []api.Change
		for i, x := range l {
			switch (i + shift) % 4 {
			case 0:
				old, want = append(old, x), append(want, gone(x))
			case 1:
				now, want = append(now, x), append(want, set(x))
			case 2:
				y := x
				y.Hop.Via = at("10.0.0.9")
				old, now, want = append(old, x), append(now, y), append(want, set(y))
			case 3:
				old, now = append(old, x), append(now, x)
			}
		}
		expectChanges(t, old, now, want...)
	}
}

// TestChangesOfAllShortLists: all pairs of lists of four prefixes, each of which is in none,
// or with one of two hops.
func TestChangesOfAllShortLists(t *testing.T) {
	some := []string{"10.0.0.0/8", "10.0.0.0/9", "::/0", "::/8"}
	list := func(n int) (l []api.Entry) {
		for _, p := range some {
			if n%3 > 0 {
				l = append(l, entry(p, hop(n%3)))
			}
			n /= 3
		}
		return l
	}
	for i := range 81 {
		for j := range 81 {
			var want []api.Change
			for k, n := 0, 1; k < len(some); k, n = k+1, n*3 {
				was, is := i/n%3, j/n%3
				switch {
				case was > 0 && is == 0:
					want = append(want, gone(entry(some[k], hop(was))))
				case was != is:
					want = append(want, set(entry(some[k], hop(is))))
				}
			}
			expectChanges(t, list(i), list(j), want...)
		}
	}
}

// TestChangesOfManyEntries: more than a rib has.
func TestChangesOfManyEntries(t *testing.T) {
	var old, now []api.Entry
	var want []api.Change
	for i := range 30000 {
		p := api.Prefix{Addr: api.Addr{Lo: uint64(i) << 12}, Bits: 20 + i%13}
		x, y := api.Entry{Prefix: p, Hop: hop(i%8 + 1)}, api.Entry{Prefix: p, Hop: hop(i%7 + 1)}
		if i%3 > 0 {
			old = append(old, x)
		}
		if i%5 > 0 {
			now = append(now, y)
		}
		switch {
		case i%3 > 0 && i%5 == 0:
			want = append(want, gone(x))
		case i%5 > 0 && (i%3 == 0 || x != y):
			want = append(want, set(y))
		}
	}
	if l := resolve.Changes(old, now); !slices.Equal(l, want) {
		t.Errorf("U3: there are %d changes, and not %d", len(l), len(want))
	}
}

// TestChangesOfUnorderedLists: for lists that are not ordered, or have a prefix twice, or
// what is none, it terminates, and tells of no entry that is not there.
func TestChangesOfUnorderedLists(t *testing.T) {
	s := source(3)
	var all []api.Entry
	for i, p := range noPrefixes {
		all = append(all, api.Entry{Prefix: p, Hop: hop(i % 3)})
	}
	all = append(all, orderlyEntries()...)
	for range 20000 {
		old, now := s.some(all, s.below(6)), s.some(all, s.below(6))
		l := resolve.Changes(old, now)
		if len(l) > len(old)+len(now) {
			t.Fatalf("U3: Changes(%v, %v) is %v", old, now, l)
		}
		for _, c := range l {
			if c.Gone && !slices.Contains(old, c.Entry) || !c.Gone && !slices.Contains(now, c.Entry) {
				t.Fatalf("U3: Changes(%v, %v) is %v", old, now, l)
			}
		}
	}
}

// TestChangesOfAWrongPrefix: one such entry alone in a list is in order, and held against
// others like any other one.
func TestChangesOfAWrongPrefix(t *testing.T) {
	for i, p := range noPrefixes {
		x, y := api.Entry{Prefix: p, Hop: hop(1)}, api.Entry{Prefix: p, Hop: hop(2)}
		expectChanges(t, []api.Entry{x}, []api.Entry{x})
		expectChanges(t, []api.Entry{x}, []api.Entry{y}, set(y))
		z := api.Entry{Prefix: noPrefixes[(i+1)%len(noPrefixes)], Hop: hop(1)}
		expectChanges(t, []api.Entry{x}, []api.Entry{z}, gone(x), set(z))
		w := entry("10.0.0.0/8", hop(1))
		expectChanges(t, []api.Entry{x}, []api.Entry{w}, gone(x), set(w))
		expectChanges(t, []api.Entry{w}, []api.Entry{x}, gone(w), set(x))
	}
}

func TestNumberOfEmpty(t *testing.T) {
	expectNumber(t, nil, nil)
	expectNumber(t, []api.Entry{}, nil)
}

// TestNumber: entries with the same hop, with unlike ones, and with hops that come back
// behind others.
func TestNumber(t *testing.T) {
	l := orderlyEntries()
	same := slices.Clone(l)
	var unlike []api.Hop
	var nexts, ones []int
	for i := range l {
		same[i].Hop = nowhere
		unlike, nexts, ones = append(unlike, l[i].Hop), append(nexts, i+1), append(ones, 1)
	}
	expectNumber(t, same, []api.Hop{nowhere}, ones...)
	expectNumber(t, l, unlike, nexts...)
	expectNumber(t, l[:1], unlike[:1], 1)

	back := slices.Clone(l)
	for i, port := range []int{5, 5, 2, 5, 7, 2, 2, 7, 5, 1, 7, 1, 9} {
		back[i].Hop = hop(port)
	}
	expectNumber(t, back, []api.Hop{hop(5), hop(2), hop(7), hop(1), hop(9)}, 1, 1, 2, 1, 3, 2, 2, 3, 1, 4, 3, 4, 5)
}

// TestNumberTellsHopsApart: hops that are unlike in one field have numbers of their own; the
// zero one has one too.
func TestNumberTellsHopsApart(t *testing.T) {
	hops := []api.Hop{{}, {Port: 1}, {Away: true}, {Port: 1, Away: true}, {Port: 1, Via: api.Addr{Six: true}}, {Port: 1, Via: api.Addr{Hi: 1}}, {Port: 1, Via: api.Addr{Lo: 1}}, {Port: 1, Via: api.Addr{Six: true, Lo: 1}}, {Port: -1}}
	var l []api.Entry
	var nexts []int
	for range 2 {
		for i, h := range hops {
			l = append(l, entry(orderly[i], h))
			nexts = append(nexts, i+1)
		}
	}
	expectNumber(t, l, hops, nexts...)
}

// TestNumberKeepsTheOrder: the routes are in the order of the entries, whatever it is, also
// with a prefix that stands twice, and what is none.
func TestNumberKeepsTheOrder(t *testing.T) {
	l := []api.Entry{entry("::/0", hop(2)), entry("10.0.0.0/8", hop(1)), entry("0.0.0.0/0", hop(2)), entry("10.0.0.0/8", hop(1)), entry("10.0.0.0/8", hop(3))}
	for _, p := range noPrefixes {
		l = append(l, api.Entry{Prefix: p, Hop: hop(1)})
	}
	nexts := []int{1, 2, 1, 2, 3}
	for range noPrefixes {
		nexts = append(nexts, 2)
	}
	expectNumber(t, l, []api.Hop{hop(2), hop(1), hop(3)}, nexts...)
}

// TestNumberOfManyHops: more than a route may have as its number.
func TestNumberOfManyHops(t *testing.T) {
	n := api.MaxNext + 10
	var l []api.Entry
	var hops []api.Hop
	var nexts []int
	for i := range 2 * n {
		h := api.Hop{Port: 1, Via: api.Addr{Lo: uint64(i % n)}}
		p, _ := prefix.Of(api.Addr{Lo: uint64(i)}, 32)
		l, nexts = append(l, api.Entry{Prefix: p, Hop: h}), append(nexts, i%n+1)
		if i < n {
			hops = append(hops, h)
		}
	}
	expectNumber(t, l, hops, nexts...)
}
