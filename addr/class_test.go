package addr_test

import (
	"math"
	"testing"

	"crossway/addr"
	"crossway/api"
)

// expectClass holds the class of an address against a number.
func expectClass(t *testing.T, a api.Addr, want int) {
	t.Helper()
	if got := addr.Class(a); got != want {
		t.Errorf("B5: Class(%v) is %d, not %d", a, got, want)
	}
}

func TestClassNumbers(t *testing.T) {
	for _, c := range []struct {
		a         api.Addr
		want, was int
	}{
		{api.Addr{Hi: 1}, api.ClassBad, -1},
		{four(0, 0, 0, 0), api.ClassNowhere, 0},
		{four(127, 1, 2, 3), api.ClassLoop, 1},
		{four(169, 254, 1, 1), api.ClassLink, 2},
		{four(224, 0, 0, 5), api.ClassMany, 3},
		{four(255, 255, 255, 255), api.ClassAll, 4},
		{four(10, 0, 0, 1), api.ClassPlain, 5},
	} {
		if c.want != c.was {
			t.Errorf("a class of api is %d, not %d", c.want, c.was)
		}
		expectClass(t, c.a, c.want)
	}
}

func TestClassFourEdges(t *testing.T) {
	for _, c := range []struct {
		a    api.Addr
		want int
	}{
		{four(0, 0, 0, 0), 0}, {four(0, 0, 0, 1), 5}, {four(0, 1, 0, 0), 5}, {four(0, 255, 255, 255), 5}, {four(1, 0, 0, 0), 5},
		{four(126, 255, 255, 255), 5}, {four(127, 0, 0, 0), 1}, {four(127, 0, 0, 1), 1}, {four(127, 255, 255, 255), 1}, {four(128, 0, 0, 0), 5},
		{four(169, 253, 255, 255), 5}, {four(169, 254, 0, 0), 2}, {four(169, 254, 255, 255), 2}, {four(169, 255, 0, 0), 5},
		{four(168, 254, 0, 0), 5}, {four(170, 254, 0, 0), 5}, {four(254, 169, 0, 0), 5},
		{four(223, 255, 255, 255), 5}, {four(224, 0, 0, 0), 3}, {four(239, 255, 255, 255), 3}, {four(240, 0, 0, 0), 5},
		{four(255, 255, 255, 254), 5}, {four(255, 255, 255, 255), 4}, {four(255, 255, 254, 255), 5}, {four(255, 0, 0, 0), 5},
		{four(192, 168, 0, 1), 5}, {four(0, 0, 0, 127), 5},
	} {
		expectClass(t, c.a, c.want)
	}
}

func TestClassSixEdges(t *testing.T) {
	const ones = math.MaxUint64
	for _, c := range []struct {
		a    api.Addr
		want int
	}{
		{api.Addr{Six: true}, 0}, {api.Addr{Six: true, Lo: 1}, 1}, {api.Addr{Six: true, Lo: 2}, 5},
		{api.Addr{Six: true, Hi: 1}, 5}, {api.Addr{Six: true, Hi: 1, Lo: 1}, 5}, {api.Addr{Six: true, Lo: 1<<63 + 1}, 5}, {api.Addr{Six: true, Hi: 1 << 63}, 5},
		{api.Addr{Six: true, Hi: 0xfe80<<48 - 1, Lo: ones}, 5}, {api.Addr{Six: true, Hi: 0xfe80 << 48}, 2}, {api.Addr{Six: true, Hi: 0xfe80 << 48, Lo: 1}, 2},
		{api.Addr{Six: true, Hi: 0xfec0<<48 - 1, Lo: ones}, 2}, {api.Addr{Six: true, Hi: 0xfec0 << 48}, 5},
		{api.Addr{Six: true, Hi: 0xfe00 << 48}, 5}, {api.Addr{Six: true, Hi: 0xfc00 << 48}, 5}, {api.Addr{Six: true, Hi: 0x7e80 << 48}, 5},
		{api.Addr{Six: true, Hi: 0xff00<<48 - 1, Lo: ones}, 5}, {api.Addr{Six: true, Hi: 0xff00 << 48}, 3}, {api.Addr{Six: true, Hi: 0xff02 << 48, Lo: 1}, 3},
		{api.Addr{Six: true, Hi: ones, Lo: ones}, 3},
		{api.Addr{Six: true, Hi: 0x20010db8 << 32, Lo: 1}, 5},
		// What is a class of its own as an IPv4 address is none in the last bits of an IPv6 one.
		{api.Addr{Six: true, Lo: 127<<24 | 1}, 5}, {api.Addr{Six: true, Lo: 169<<24 | 254<<16}, 5}, {api.Addr{Six: true, Lo: 224 << 24}, 5},
		{api.Addr{Six: true, Lo: 1<<32 - 1}, 5}, {api.Addr{Six: true, Lo: 0xffff<<32 | 127<<24 | 1}, 5}, {api.Addr{Six: true, Lo: 0xffff << 32}, 5},
	} {
		expectClass(t, c.a, c.want)
	}
}

func TestClassOfWrongAddresses(t *testing.T) {
	for _, a := range wrong {
		expectClass(t, a, -1)
	}
}

// classOutside is the class of a valid address by what the library says of it.
func classOutside(a api.Addr) int {
	o := outside(a)
	switch {
	case o.IsUnspecified():
		return 0
	case o.IsLoopback():
		return 1
	case o.IsLinkLocalUnicast():
		return 2
	case o.IsMulticast():
		return 3
	case !a.Six && a.Lo == 1<<32-1:
		return 4
	}
	return 5
}

func TestClassOfEachBeginning(t *testing.T) {
	for begin := range uint64(1 << 16) {
		for _, end := range []uint64{0, 1, 0xffff} {
			a := api.Addr{Lo: begin<<16 | end}
			expectClass(t, a, classOutside(a))
			a = api.Addr{Six: true, Hi: begin << 48, Lo: end}
			expectClass(t, a, classOutside(a))
		}
	}
	for _, a := range many() {
		if !mapped(a) {
			expectClass(t, a, classOutside(a))
		}
	}
}
