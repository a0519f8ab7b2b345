package rib_test

import (
	"fmt"
	"math"
	"testing"

	"crossway/api"
	"crossway/rib"
)

// Values of the fields of a path, most of which no valid path has, each list in order.
var (
	anyProtos  = []int{math.MinInt, math.MinInt32, -1, 0, 1, 2, 3, 4, 5, 6, 20, 110, 120, 254, 255, 256, math.MaxInt}
	anyNumbers = []int{math.MinInt, math.MinInt + 1, math.MinInt32, -65536, -2, -1, 0, 1, 2, 7, 8, 9, 255, 65535, 65536, math.MaxInt32, math.MaxInt - 1, math.MaxInt}
	anyWords   = []uint64{0, 1, 2, 10 << 24, 1<<32 - 1, 1 << 32, 1<<63 - 1, 1 << 63, 1<<63 + 1, math.MaxUint64 - 1, math.MaxUint64}
)

// far is the distance of a Proto.
func far(proto int) int {
	switch proto {
	case 0:
		return 0
	case 1:
		return 1
	case 2:
		return 20
	case 3:
		return 110
	case 4:
		return 120
	}
	return 255
}

// rank is a text of a path that comes before that of each path than which it is better.
func rank(x api.Path) string {
	six, away := 0, 0
	if x.Via.Six {
		six = 1
	}
	if x.Away {
		away = 1
	}
	up := func(n int) uint64 { return uint64(n) + 1<<63 }
	return fmt.Sprintf("%03d %020d %020d %d %020d %020d %d", far(x.Proto), up(x.Metric), up(x.Port), six, x.Via.Hi, x.Via.Lo, away)
}

// expectBetter expects that both ways round Better tells what the ranks tell.
func expectBetter(t *testing.T, x, y api.Path) {
	t.Helper()
	a, b := rank(x), rank(y)
	if got := rib.Better(x, y); got != (a < b) {
		t.Fatalf("Q1: Better(%v, %v) is %t", x, y, got)
	}
	if got := rib.Better(y, x); got != (b < a) {
		t.Fatalf("Q1: Better(%v, %v) is %t", y, x, got)
	}
}

// someBases are paths, of which one field at a time is changed.
var someBases = []api.Path{
	{}, {Proto: 1, Port: 1}, {Proto: 2, Metric: 65535, Via: at("10.0.0.1")}, {Proto: 3, Port: 8, Via: at("fe80::1")}, {Proto: 4, Away: true},
	{Proto: -1, Metric: -1, Port: -1, Via: api.Addr{Hi: 1, Lo: 1 << 32}, Away: true}, {Proto: 5, Metric: math.MaxInt, Port: math.MaxInt, Via: api.Addr{Six: true, Hi: math.MaxUint64, Lo: math.MaxUint64}, Away: true},
	{Proto: math.MinInt, Metric: math.MinInt, Port: math.MinInt},
}

// changed are a path with each value of one field, that of the others as they are.
func changed(x api.Path, field string) (l []api.Path) {
	for _, n := range anyNumbers {
		y := x
		switch field {
		case "Metric":
			y.Metric = n
		case "Port":
			y.Port = n
		default:
			continue
		}
		l = append(l, y)
	}
	for _, n := range anyWords {
		y := x
		switch field {
		case "Hi":
			y.Via.Hi = n
		case "Lo":
			y.Via.Lo = n
		default:
			continue
		}
		l = append(l, y)
	}
	for _, is := range []bool{false, true} {
		y := x
		switch field {
		case "Six":
			y.Via.Six = is
		case "Away":
			y.Away = is
		default:
			continue
		}
		l = append(l, y)
	}
	return l
}

// TestBetterOneField: of paths that differ in one field alone, the one with the lesser
// value is better.
func TestBetterOneField(t *testing.T) {
	for _, x := range someBases {
		for _, field := range []string{"Metric", "Port", "Six", "Hi", "Lo", "Away"} {
			l := changed(x, field)
			for i := range l {
				for j := range l {
					if got := rib.Better(l[i], l[j]); got != (i < j) {
						t.Errorf("Q1: Better(%v, %v) is %t", l[i], l[j], got)
					}
				}
			}
		}
	}
}

// TestBetterProtos: all others than the five have the same distance, which is the greatest.
func TestBetterProtos(t *testing.T) {
	for _, x := range someBases {
		for _, p := range anyProtos {
			for _, q := range anyProtos {
				y := x
				x.Proto, y.Proto = p, q
				want := far(p) < far(q)
				if got := rib.Better(x, y); got != want {
					t.Errorf("Q1: Better(%v, %v) is %t", x, y, got)
				}
			}
		}
	}
	// The five are in the order of their numbers.
	for p := range 6 {
		for q := range 6 {
			if got := rib.Better(api.Path{Proto: p}, api.Path{Proto: q}); got != (p < q) {
				t.Errorf("Q1: Better of the Protos %d and %d is %t", p, q, got)
			}
		}
	}
}

// TestBetterEarlierField: an earlier field counts more than all later ones.
func TestBetterEarlierField(t *testing.T) {
	const most = math.MaxUint64
	least := api.Path{Proto: 0, Metric: math.MinInt, Port: math.MinInt}
	greatest := api.Path{Proto: 9, Metric: math.MaxInt, Port: math.MaxInt, Via: api.Addr{Six: true, Hi: most, Lo: most}, Away: true}
	fields := []func(to *api.Path, from api.Path){
		func(to *api.Path, from api.Path) { to.Proto = from.Proto },
		func(to *api.Path, from api.Path) { to.Metric = from.Metric },
		func(to *api.Path, from api.Path) { to.Port = from.Port },
		func(to *api.Path, from api.Path) { to.Via.Six = from.Via.Six },
		func(to *api.Path, from api.Path) { to.Via.Hi = from.Via.Hi },
		func(to *api.Path, from api.Path) { to.Via.Lo = from.Via.Lo },
		func(to *api.Path, from api.Path) { to.Away = from.Away },
	}
	for i, set := range fields {
		for _, same := range []api.Path{least, greatest} {
			x, y := greatest, least
			for _, before := range fields[:i] {
				before(&x, same)
				before(&y, same)
			}
			set(&x, least)
			set(&y, greatest)
			if !rib.Better(x, y) || rib.Better(y, x) {
				t.Errorf("Q1: Better(%v, %v) is %t, and the other way round %t", x, y, rib.Better(x, y), rib.Better(y, x))
			}
		}
	}
}

// TestBetterLadder: each one is better than those behind it, and no other one.
func TestBetterLadder(t *testing.T) {
	l := []api.Path{
		{Proto: 0, Metric: 65535, Port: 8, Via: at("10.255.255.255")}, {Proto: 1, Metric: -5, Port: 9}, {Proto: 1, Port: -1}, {Proto: 1}, {Proto: 1, Away: true}, {Proto: 1, Via: at("0.0.0.1")}, {Proto: 1, Via: at("10.0.0.1")}, {Proto: 1, Via: at("10.0.0.1"), Away: true}, {Proto: 1, Via: at("255.255.255.255")},
		{Proto: 1, Via: api.Addr{Lo: 1 << 32}}, {Proto: 1, Via: api.Addr{Hi: 1}}, {Proto: 1, Via: api.Addr{Hi: 1 << 63}}, {Proto: 1, Via: at("::")}, {Proto: 1, Via: at("::1")}, {Proto: 1, Via: at("::a00:1")}, {Proto: 1, Via: at("0:0:0:1::")}, {Proto: 1, Via: at("fe80::1")},
		{Proto: 1, Port: 1}, {Proto: 1, Port: 1, Via: at("10.0.0.1")}, {Proto: 1, Port: 2}, {Proto: 1, Metric: 1, Via: at("10.0.0.1")}, {Proto: 1, Metric: 65535}, {Proto: 2}, {Proto: 3, Away: true}, {Proto: 4, Metric: -1}, {Proto: 4}, {Proto: 5, Metric: -1}, {Proto: 20}, {Proto: -1, Metric: 1}, {Proto: 110, Metric: 2},
	}
	for i := range l {
		for j := range l {
			if got := rib.Better(l[i], l[j]); got != (i < j) {
				t.Errorf("Q1: Better(%v, %v) is %t", l[i], l[j], got)
			}
		}
	}
}

// anyPath is a path by chance, of values that are seldom valid together.
func (s *source) anyPath() api.Path {
	return api.Path{Proto: one(s, anyProtos), Metric: one(s, anyNumbers), Via: api.Addr{Six: s.below(2) == 0, Hi: one(s, anyWords), Lo: one(s, anyWords)}, Port: one(s, anyNumbers), Away: s.below(2) == 0}
}

// TestBetterMixtures: paths by chance, which often have several fields in common.
func TestBetterMixtures(t *testing.T) {
	s := source(1)
	for range 200000 {
		x, other := s.anyPath(), s.anyPath()
		y := x
		switch s.below(8) {
		case 0:
			y = other
		case 1:
			y.Proto, y.Via = other.Proto, other.Via
		case 2:
			y.Metric, y.Port = other.Metric, other.Port
		case 3:
			y.Port, y.Via.Lo = other.Port, other.Via.Lo
		case 4:
			y.Via, y.Away = other.Via, other.Away
		case 5:
			y.Proto, y.Away = other.Proto, other.Away
		case 6:
			y.Metric, y.Via.Six = other.Metric, other.Via.Six
		}
		expectBetter(t, x, y)
		if rib.Better(x, x) || rib.Better(y, y) {
			t.Fatalf("Q1: %v, or %v, is better than itself", x, y)
		}
	}
}

// TestBetterOrder: of three paths by chance, if x is better than y, and y than z, x is
// better than z.
func TestBetterOrder(t *testing.T) {
	s := source(2)
	for range 200000 {
		x, y, z := s.near(), s.near(), s.near()
		if rib.Better(x, y) && rib.Better(y, z) && !rib.Better(x, z) {
			t.Fatalf("Q1: %v, %v and %v go round", x, y, z)
		}
	}
}

// near is a path by chance, of so few values that many are the same, or nearly.
func (s *source) near() api.Path {
	return api.Path{Proto: s.below(6), Metric: s.below(2), Via: api.Addr{Six: s.below(2) == 0, Hi: uint64(s.below(2)), Lo: uint64(s.below(2))}, Port: s.below(2), Away: s.below(2) == 0}
}
