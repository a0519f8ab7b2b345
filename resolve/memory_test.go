package resolve_test

import (
	"slices"
	"testing"

	"crossway/api"
	"crossway/resolve"
)

// TestRibAndPortsStay: no call changes the rib or the ports.
func TestRibAndPortsStay(t *testing.T) {
	r, s := example(t)
	put(t, r, "60.0.0.0/8", via("60.0.0.1"))
	put(t, r, "10.0.0.0/24", of(2, by(2)), of(3, via("10.0.0.1")))
	before := tells(r, s)
	var first []api.Entry
	for range 3 {
		for _, p := range append(r.Prefixes(), noPrefixes...) {
			resolve.Path(r, s, p)
			resolve.Hop(r, s, p)
		}
		l := resolve.Table(r, s)
		if first != nil && !slices.Equal(l, first) {
			t.Errorf("U2: Table is %v, and was %v", l, first)
		}
		first = l
		if now := tells(r, s); now != before {
			t.Fatalf("R3: rib and ports tell\n%s\nand not\n%s", now, before)
		}
	}
}

// TestTableDoesNotFollow: what was returned does not follow the rib and the ports.
func TestTableDoesNotFollow(t *testing.T) {
	r, s := example(t)
	l := resolve.Table(r, s)
	want := slices.Clone(l)
	r.Flush(1)
	turn(t, s, 1, false)
	put(t, r, "0.0.0.0/0", away())
	if !slices.Equal(l, want) {
		t.Errorf("R3: the table has become %v", l)
	}
	expectTable(t, r, s, entry("0.0.0.0/0", nowhere), entry("30.0.0.0/8", nowhere))
}

// other is an entry that no test expects.
var other = api.Entry{Prefix: pre("99.0.0.0/8"), Hop: api.Hop{Port: 99}}

// spoil writes into a list and its spare capacity, and appends to it.
func spoil[T any](l []T, x T) {
	_ = append(l, x)
	l = l[:cap(l)]
	for i := range l {
		l[i] = x
	}
	_ = append(l[:0], make([]T, 100)...)
}

// spoilAll writes into all that some calls return.
func spoilAll(old, now []api.Entry) {
	spoil(resolve.Changes(old, now), gone(other))
	spoil(resolve.Changes(now, old), gone(other))
	spoil(resolve.Changes(nil, now), gone(other))
	spoil(resolve.Changes(old, nil), gone(other))
	for _, l := range [][]api.Entry{old, now} {
		routes, hops := resolve.Number(l)
		spoil(routes, api.Route{Prefix: other.Prefix, Next: 99})
		spoil(hops, other.Hop)
	}
}

// roomy is a list with spare capacity, whose elements are others.
func roomy(l []api.Entry) []api.Entry {
	all := append(slices.Clone(l), other, other, other)
	return all[:len(l)]
}

// expectRoomy expects that such a list, and its spare capacity, are as they were.
func expectRoomy(t *testing.T, l, want []api.Entry) {
	t.Helper()
	if all := l[:len(l)+3]; !slices.Equal(all, append(slices.Clone(want), other, other, other)) {
		t.Errorf("R3: the list has become %v", all)
	}
}

// TestListsStay: no call changes a list that it is given, nor what is behind its length, nor
// does writing into a result.
func TestListsStay(t *testing.T) {
	l := orderlyEntries()
	for n := range len(l) {
		for shift := range 4 {
			var old, now []api.Entry
			for i, x := range l[:n] {
				if i%4 != shift {
					old = append(old, x)
				}
				if i%3 != shift {
					x.Hop.Port += i % 2
					now = append(now, x)
				}
			}
			a, b := roomy(old), roomy(now)
			want := resolve.Changes(a, b)
			told := slices.Clone(want)
			for _, x := range probes() {
				resolve.Look(a, x)
			}
			spoilAll(a, b)
			expectRoomy(t, a, old)
			expectRoomy(t, b, now)
			expectChanges(t, a, b, told...)
			if !slices.Equal(want, told) {
				t.Errorf("R3: other changes have become %v", want)
			}
		}
	}
}

// TestResultsStay: what was returned does not follow a list that it was made of, and the two
// lists of one result share nothing.
func TestResultsStay(t *testing.T) {
	l := orderlyEntries()
	l[5].Hop = l[2].Hop
	routes, hops := resolve.Number(l)
	changes := resolve.Changes(l[:6], l[3:])
	first, second, third := slices.Clone(routes), slices.Clone(hops), slices.Clone(changes)
	spoil(l, other)
	if !slices.Equal(routes, first) || !slices.Equal(hops, second) || !slices.Equal(changes, third) {
		t.Errorf("R3: they have become %v, %v and %v", routes, hops, changes)
	}
	spoil(routes, api.Route{})
	if !slices.Equal(hops, second) {
		t.Errorf("R3: the hops have become %v", hops)
	}
}

// TestTablesAreNew: writing into one table, and appending to it, changes no other one.
func TestTablesAreNew(t *testing.T) {
	r, s := example(t)
	want := resolve.Table(r, s)
	first := slices.Clone(want)
	for range 3 {
		spoil(resolve.Table(r, s), other)
		expectTable(t, r, s, first...)
	}
	if !slices.Equal(want, first) {
		t.Errorf("R3: another table has become %v", want)
	}
}

// TestSeveralAtOnce: calls for unlike ribs and lists, in turn, do not depend on each other.
func TestSeveralAtOnce(t *testing.T) {
	r, s := example(t)
	o, p := chain(t, false, 8, by(1)), ports(t, "u")
	first, second := resolve.Table(r, s), resolve.Table(o, p)
	for range 3 {
		expectTable(t, r, s, first...)
		expectTable(t, o, p, second...)
		expectNumber(t, first, []api.Hop{hop(1), hop(1, "10.0.0.9"), nowhere}, 1, 2, 2, 3)
		expectNumber(t, second, []api.Hop{hop(1, "100.8.0.9"), hop(1)}, 1, 1, 1, 1, 1, 1, 1, 1, 2)
	}
	turn(t, s, 1, false)
	expectTable(t, o, p, second...)
}
