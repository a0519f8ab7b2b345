package prefix_test

import (
	"math"
	"net/netip"
	"slices"
	"strconv"
	"strings"
	"testing"

	"crossway/api"
	"crossway/prefix"
)

// source tells numbers that look like chance, the same ones in each run.
type source uint64

func (s *source) next() uint64 {
	*s = *s*6364136223846793005 + 1442695040888963407
	return uint64(*s ^ *s>>29)
}

func (s *source) below(n int) int { return int(s.next() >> 11 % uint64(n)) }

// four is the IPv4 address of four bytes.
func four(a, b, c, d uint64) api.Addr {
	return api.Addr{Lo: a<<24 | b<<16 | c<<8 | d}
}

// six is the IPv6 address of two numbers.
func six(hi, lo uint64) api.Addr {
	return api.Addr{Six: true, Hi: hi, Lo: lo}
}

// of is a prefix, valid or not.
func of(a api.Addr, bits int) api.Prefix {
	return api.Prefix{Addr: a, Bits: bits}
}

const all = math.MaxUint64

// wrongAddrs are addresses that are not valid.
var wrongAddrs = []api.Addr{
	{Lo: 1 << 32}, {Lo: 1<<32 + 1}, {Lo: 1 << 63}, {Lo: all}, {Lo: 10<<24 | 1<<40},
	{Hi: 1}, {Hi: 1 << 32}, {Hi: 1 << 63}, {Hi: all}, {Hi: 1, Lo: 1}, {Hi: 1, Lo: 10 << 24}, {Hi: all, Lo: all},
}

// edges are valid addresses of both families.
var edges = []api.Addr{
	{}, {Lo: 1}, {Lo: 2}, four(10, 0, 0, 0), four(10, 0, 0, 1), four(10, 128, 0, 0), four(10, 255, 255, 255),
	four(11, 0, 0, 0), four(127, 255, 255, 255), four(128, 0, 0, 0), four(192, 168, 1, 7), {Lo: 1<<32 - 2}, {Lo: 1<<32 - 1},
	six(0, 0), six(0, 1), six(0, 2), six(0, 10<<24), six(0, 1<<32-1), six(0, 1<<32), six(0, 1<<62), six(0, 1<<63-1), six(0, 1<<63),
	six(0, all-1), six(0, all), six(1, 0), six(1, 1), six(1, all), six(2, 0), six(0x20010db8<<32, 0), six(0x20010db8<<32, 1),
	six(1<<62, 0), six(1<<63-1, all), six(1<<63, 0), six(1<<63, 1<<63), six(0xfe80<<48, 5), six(all-1, all), six(all, 0), six(all, 1<<63), six(all, all-1), six(all, all),
}

// wrongBits are no number of bits of any address.
var wrongBits = []int{-1, -2, -31, -32, -64, -96, -128, 129, 130, 160, 191, 192, 255, 256, 999, 1 << 32, -1 << 32, 1<<32 + 8, math.MaxInt, math.MinInt, math.MaxInt - 63, math.MinInt + 64}

// plain is the bits of an address, one byte each, `0` or `1`; none if it is not valid.
func plain(a api.Addr) string {
	if a.Six {
		return binary(a.Hi, 64) + binary(a.Lo, 64)
	}
	if a.Hi != 0 || a.Lo >= 1<<32 {
		return ""
	}
	return binary(a.Lo, 32)
}

// binary is a number in so many binary digits.
func binary(n uint64, digits int) string {
	s := strconv.FormatUint(n, 2)
	return strings.Repeat("0", digits-len(s)) + s
}

// back is the address of the bits that plain tells.
func back(bits string) api.Addr {
	if len(bits) == 128 {
		return six(value(bits[:64]), value(bits[64:]))
	}
	return api.Addr{Lo: value(bits)}
}

// value is the number of binary digits.
func value(digits string) uint64 {
	n, err := strconv.ParseUint(digits, 2, 64)
	if err != nil {
		panic(err)
	}
	return n
}

// isValid is what the chapter says of a valid prefix, bit by bit.
func isValid(p api.Prefix) bool {
	bits := plain(p.Addr)
	return bits != "" && p.Bits >= 0 && p.Bits <= len(bits) && !strings.Contains(bits[p.Bits:], "1")
}

// isHeld is what the chapter says of Holds, bit by bit.
func isHeld(p api.Prefix, a api.Addr) bool {
	return isValid(p) && plain(a) != "" && p.Addr.Six == a.Six && plain(a)[:p.Bits] == plain(p.Addr)[:p.Bits]
}

// ends are the least and the greatest address of a valid prefix.
func ends(p api.Prefix) (least, greatest api.Addr) {
	bits := plain(p.Addr)
	return p.Addr, back(bits[:p.Bits] + strings.Repeat("1", len(bits)-p.Bits))
}

// chance are valid addresses that look like chance, of both families, some of
// them near others.
func chance(s *source, n int) []api.Addr {
	var found []api.Addr
	for range n {
		a := six(s.next(), s.next())
		i := s.below(64)
		found = append(found, a, six(a.Hi^1<<i, a.Lo), six(a.Hi, a.Lo^1<<i), six(a.Hi, a.Lo^s.next()>>i))
		b := api.Addr{Lo: s.next() >> 32}
		found = append(found, b, api.Addr{Lo: b.Lo ^ 1<<(i%32)}, api.Addr{Lo: b.Lo ^ s.next()>>32>>(i%32)})
	}
	return found
}

// valid are valid prefixes of both families, of every length.
func valid() []api.Prefix {
	var found []api.Prefix
	s := source(4)
	for i, a := range slices.Concat(edges, chance(&s, 3)) {
		bits := plain(a)
		for n := range len(bits) + 1 {
			if i < len(edges) && n > 2 && n < len(bits)-2 && n%8 > 1 && n%8 < 7 {
				continue
			}
			found = append(found, of(back(bits[:n]+strings.Repeat("0", len(bits)-n)), n))
		}
	}
	return found
}

// wrong are prefixes that are not valid: their address, their Bits, or a bit of 1
// behind the significant ones.
func wrong() []api.Prefix {
	var found []api.Prefix
	for _, a := range wrongAddrs {
		for n := range 129 {
			found = append(found, of(a, n))
		}
		for _, n := range wrongBits {
			found = append(found, of(a, n))
		}
	}
	for _, a := range edges {
		for _, n := range wrongBits {
			found = append(found, of(a, n))
		}
	}
	for n := 33; n <= 128; n++ {
		found = append(found, of(api.Addr{}, n), of(four(10, 0, 0, 0), n))
	}
	for n := range 32 {
		found = append(found, of(api.Addr{Lo: 1}, n), of(api.Addr{Lo: 1 << (31 - n)}, n))
	}
	for n := range 128 {
		found = append(found, of(six(0, 1), n), of(back(strings.Repeat("0", n)+"1"+strings.Repeat("0", 127-n)), n))
	}
	return found
}

func TestValid(t *testing.T) {
	for _, p := range valid() {
		if !isValid(p) || !prefix.Valid(p) {
			t.Errorf("D1: Valid(%v) is false", p)
		}
	}
	for _, p := range wrong() {
		if isValid(p) || prefix.Valid(p) {
			t.Errorf("D1: Valid(%v) is true", p)
		}
	}
	for _, p := range []api.Prefix{{}, of(api.Addr{}, 32), of(api.Addr{Lo: 1<<32 - 1}, 32), of(api.Addr{Lo: 1 << 31}, 1), of(six(0, 0), 0), of(six(0, 0), 128), of(six(all, all), 128), of(six(1<<63, 0), 1), of(six(1, 0), 64), of(six(0, 1<<63), 65)} {
		if !prefix.Valid(p) {
			t.Errorf("D1: Valid(%v) is false", p)
		}
	}
	for _, p := range []api.Prefix{of(api.Addr{Lo: 1}, 31), of(api.Addr{Lo: 1 << 31}, 0), of(six(0, 1), 127), of(six(1<<63, 0), 0), of(six(1, 0), 63), of(six(0, 1<<63), 64), of(api.Addr{}, 33), of(api.Addr{}, -1), of(six(0, 0), 129), of(six(0, 0), -1)} {
		if prefix.Valid(p) {
			t.Errorf("D1: Valid(%v) is true", p)
		}
	}
}

// TestValidEachBit sets each bit behind and ahead of each length.
func TestValidEachBit(t *testing.T) {
	for _, size := range []int{32, 128} {
		for n := range size + 1 {
			for i := range size {
				a := back(strings.Repeat("0", i) + "1" + strings.Repeat("0", size-1-i))
				if got := prefix.Valid(of(a, n)); got != (i < n) {
					t.Errorf("D1: Valid of the one bit %d of %d and %d bits is %t", i, size, n, got)
				}
			}
		}
	}
}

// expectOf holds Of against a prefix.
func expectOf(t *testing.T, a api.Addr, bits int, want api.Prefix) {
	t.Helper()
	if p, e := prefix.Of(a, bits); p != want || e != api.OK {
		t.Errorf("D1: Of(%v, %d) is %v %d, not %v", a, bits, p, e, want)
	}
}

// expectNoPrefix holds Of against its error.
func expectNoPrefix(t *testing.T, a api.Addr, bits int) {
	t.Helper()
	if p, e := prefix.Of(a, bits); p != (api.Prefix{}) || e != api.ErrArg {
		t.Errorf("D1: Of(%v, %d) is %v %d, not ErrArg", a, bits, p, e)
	}
}

func TestOfExamples(t *testing.T) {
	expectOf(t, api.Addr{Lo: 167772161}, 8, of(api.Addr{Lo: 167772160}, 8))
	expectNoPrefix(t, api.Addr{Lo: 1}, 33)
	expectOf(t, api.Addr{Lo: 1<<32 - 1}, 0, of(api.Addr{}, 0))
	expectOf(t, api.Addr{Lo: 1<<32 - 1}, 1, of(four(128, 0, 0, 0), 1))
	expectOf(t, api.Addr{Lo: 1<<32 - 1}, 31, of(four(255, 255, 255, 254), 31))
	expectOf(t, api.Addr{Lo: 1<<32 - 1}, 32, of(four(255, 255, 255, 255), 32))
	expectOf(t, six(all, all), 0, of(six(0, 0), 0))
	expectOf(t, six(all, all), 1, of(six(1<<63, 0), 1))
	expectOf(t, six(all, all), 32, of(six(0xffffffff<<32, 0), 32))
	expectOf(t, six(all, all), 63, of(six(all-1, 0), 63))
	expectOf(t, six(all, all), 64, of(six(all, 0), 64))
	expectOf(t, six(all, all), 65, of(six(all, 1<<63), 65))
	expectOf(t, six(all, all), 127, of(six(all, all-1), 127))
	expectOf(t, six(all, all), 128, of(six(all, all), 128))
}

func TestOfEachLength(t *testing.T) {
	s := source(1)
	for _, a := range slices.Concat(edges, chance(&s, 20)) {
		bits := plain(a)
		for n := range len(bits) + 1 {
			expectOf(t, a, n, of(back(bits[:n]+strings.Repeat("0", len(bits)-n)), n))
		}
		for n := len(bits) + 1; n < 300; n++ {
			expectNoPrefix(t, a, n)
		}
		for _, n := range wrongBits {
			expectNoPrefix(t, a, n)
		}
	}
}

func TestOfWrongAddresses(t *testing.T) {
	for _, a := range wrongAddrs {
		for n := -1; n < 130; n++ {
			expectNoPrefix(t, a, n)
		}
		for _, n := range wrongBits {
			expectNoPrefix(t, a, n)
		}
	}
}

func TestBitExamples(t *testing.T) {
	for _, c := range []struct {
		a    api.Addr
		i    int
		want int
	}{
		{api.Addr{Lo: 1}, 31, 1}, {api.Addr{Lo: 1}, 32, 0}, {api.Addr{Lo: 1}, 30, 0}, {api.Addr{Lo: 1}, 127, 0}, {api.Addr{Lo: 1}, -1, 0},
		{api.Addr{Lo: 1 << 31}, 0, 1}, {api.Addr{Lo: 1 << 31}, 1, 0}, {api.Addr{Lo: 1 << 31}, 96, 0}, {api.Addr{Lo: 1 << 31}, 32, 0},
		{six(0, 1), 127, 1}, {six(0, 1), 128, 0}, {six(0, 1), 126, 0}, {six(0, 1), 63, 0}, {six(0, 1), -1, 0},
		{six(1, 0), 63, 1}, {six(1, 0), 64, 0}, {six(1, 0), 127, 0}, {six(1<<63, 0), 0, 1}, {six(1<<63, 0), 64, 0},
		{six(0, 1<<63), 64, 1}, {six(0, 1<<63), 63, 0}, {six(0, 1<<63), 0, 0},
	} {
		if got := prefix.Bit(c.a, c.i); got != c.want {
			t.Errorf("D1: Bit(%v, %d) is %d", c.a, c.i, got)
		}
	}
}

func TestBitEachPosition(t *testing.T) {
	s := source(2)
	for _, a := range slices.Concat(edges, chance(&s, 20)) {
		bits := plain(a)
		for i := range bits {
			if got := prefix.Bit(a, i); got != int(bits[i]-'0') {
				t.Errorf("D1: Bit(%v, %d) is %d", a, i, got)
			}
		}
		beyond := slices.Clone(wrongBits)
		for i := len(bits); i < 300; i++ {
			beyond = append(beyond, i, -i)
		}
		for _, i := range beyond {
			if got := prefix.Bit(a, i); got != 0 {
				t.Errorf("D1: Bit(%v, %d) is %d", a, i, got)
			}
		}
	}
	for _, a := range wrongAddrs {
		for i := -130; i < 130; i++ {
			if got := prefix.Bit(a, i); got != 0 {
				t.Errorf("D1: Bit(%v, %d) is %d", a, i, got)
			}
		}
	}
}

func TestHoldsExamples(t *testing.T) {
	ten := of(four(10, 0, 0, 0), 8)
	for _, c := range []struct {
		p    api.Prefix
		a    api.Addr
		want bool
	}{
		{ten, four(10, 255, 0, 1), true}, {ten, four(10, 0, 0, 0), true}, {ten, four(10, 255, 255, 255), true}, {ten, four(11, 0, 0, 0), false}, {ten, four(9, 255, 255, 255), false}, {ten, six(0, 10<<24), false},
		{of(api.Addr{}, 0), api.Addr{}, true}, {of(api.Addr{}, 0), api.Addr{Lo: 1<<32 - 1}, true}, {of(api.Addr{}, 0), six(0, 0), false}, {of(api.Addr{}, 0), six(0, 1), false},
		{of(six(0, 0), 0), six(all, all), true}, {of(six(0, 0), 0), six(0, 0), true}, {of(six(0, 0), 0), api.Addr{}, false}, {of(six(0, 0), 0), api.Addr{Lo: 1}, false}, {of(six(0, 0), 96), api.Addr{Lo: 1}, false},
		{of(api.Addr{Lo: 7}, 32), api.Addr{Lo: 7}, true}, {of(api.Addr{Lo: 7}, 32), api.Addr{Lo: 6}, false}, {of(api.Addr{Lo: 6}, 31), api.Addr{Lo: 7}, true}, {of(api.Addr{Lo: 6}, 31), api.Addr{Lo: 5}, false},
		{of(six(2, 0), 63), six(3, all), true}, {of(six(2, 0), 63), six(1, all), false}, {of(six(2, 0), 63), six(4, 0), false},
		{of(six(3, 0), 64), six(3, all), true}, {of(six(3, 0), 64), six(2, all), false},
		{of(six(3, 1<<63), 65), six(3, all), true}, {of(six(3, 1<<63), 65), six(3, 1<<63-1), false}, {of(six(3, 1<<63), 65), six(2, 1<<63), false},
		{of(six(3, 8), 128), six(3, 8), true}, {of(six(3, 8), 128), six(3, 9), false}, {of(six(3, 8), 127), six(3, 9), true},
		{of(four(10, 0, 0, 1), 8), four(10, 0, 0, 1), false}, {of(four(10, 0, 0, 0), 33), four(10, 0, 0, 0), false}, {of(four(10, 0, 0, 0), -1), four(10, 0, 0, 0), false},
		{of(api.Addr{Lo: 1 << 32}, 32), api.Addr{Lo: 1 << 32}, false}, {of(api.Addr{}, 0), api.Addr{Lo: 1 << 32}, false}, {of(api.Addr{}, 0), api.Addr{Hi: 1}, false}, {ten, api.Addr{Hi: 1, Lo: 10 << 24}, false},
	} {
		if got := prefix.Holds(c.p, c.a); got != c.want {
			t.Errorf("D2: Holds(%v, %v) is %t", c.p, c.a, got)
		}
	}
}

func TestHoldsOfEachAddress(t *testing.T) {
	s := source(6)
	addrs := slices.Concat(edges, wrongAddrs, chance(&s, 5))
	for _, p := range slices.Concat(valid(), wrong()) {
		for _, a := range addrs {
			if got := prefix.Holds(p, a); got != isHeld(p, a) {
				t.Errorf("D2: Holds(%v, %v) is %t", p, a, got)
			}
		}
	}
}

// TestHoldsToEachBit changes one bit of an address that is held.
func TestHoldsToEachBit(t *testing.T) {
	for _, size := range []int{32, 128} {
		for n := range size + 1 {
			p := of(back(strings.Repeat("1", n)+strings.Repeat("0", size-n)), n)
			for i := range size {
				bits := []byte(strings.Repeat("1", size))
				bits[i] = '0'
				if got := prefix.Holds(p, back(string(bits))); got != (i >= n) {
					t.Errorf("D2: Holds of %v and an address that differs in bit %d is %t", p, i, got)
				}
			}
		}
	}
}

func TestCoversExamples(t *testing.T) {
	ten := of(four(10, 0, 0, 0), 8)
	for _, c := range []struct {
		p, q api.Prefix
		want bool
	}{
		{ten, of(four(10, 1, 0, 0), 16), true}, {ten, ten, true}, {ten, of(four(10, 0, 0, 0), 9), true}, {ten, of(four(10, 0, 0, 0), 7), false}, {ten, of(four(11, 0, 0, 0), 16), false}, {of(four(10, 1, 0, 0), 16), ten, false},
		{ten, of(four(10, 0, 0, 0), 32), true}, {of(four(10, 0, 0, 0), 32), ten, false}, {of(four(10, 0, 0, 0), 32), of(four(10, 0, 0, 0), 32), true},
		{of(api.Addr{}, 0), ten, true}, {ten, of(api.Addr{}, 0), false}, {of(api.Addr{}, 0), of(api.Addr{}, 0), true},
		{of(six(0, 0), 0), ten, false}, {of(api.Addr{}, 0), of(six(0, 0), 0), false}, {of(six(0, 0), 0), of(api.Addr{}, 0), false}, {of(six(0, 0), 0), of(six(all, all), 128), true},
		{of(six(2, 0), 63), of(six(3, 0), 64), true}, {of(six(3, 0), 64), of(six(2, 0), 63), false}, {of(six(3, 0), 64), of(six(3, 1<<63), 65), true}, {of(six(3, 1<<63), 65), of(six(3, 0), 64), false}, {of(six(2, 0), 64), of(six(3, 1<<63), 65), false},
		{ten, of(four(10, 0, 0, 1), 16), false}, {of(four(10, 0, 0, 1), 8), ten, false}, {ten, of(four(10, 0, 0, 0), 33), false}, {ten, of(four(10, 0, 0, 0), -1), false}, {of(four(10, 0, 0, 0), -1), ten, false},
		{ten, of(api.Addr{Hi: 1, Lo: 10 << 24}, 16), false}, {of(api.Addr{Lo: 1 << 32}, 32), of(api.Addr{Lo: 1 << 32}, 32), false},
	} {
		if got := prefix.Covers(c.p, c.q); got != c.want {
			t.Errorf("D2: Covers(%v, %v) is %t", c.p, c.q, got)
		}
	}
}

// isCovered is what the chapter says of Covers: as a prefix's addresses follow one
// another, the first and the last one of q tell of all of them.
func isCovered(p, q api.Prefix) bool {
	if !isValid(p) || !isValid(q) {
		return false
	}
	least, greatest := ends(q)
	return isHeld(p, least) && isHeld(p, greatest)
}

func TestCoversOfEachPrefix(t *testing.T) {
	s := source(7)
	good, bad := valid(), wrong()
	for range 200000 {
		p, q := good[s.below(len(good))], good[s.below(len(good))]
		if got := prefix.Covers(p, q); got != isCovered(p, q) {
			t.Errorf("D2: Covers(%v, %v) is %t", p, q, got)
		}
	}
	for range 100000 {
		p, q := good[s.below(len(good))], bad[s.below(len(bad))]
		if prefix.Covers(p, q) || prefix.Covers(q, p) || prefix.Covers(q, q) {
			t.Errorf("D2: Covers of %v and %v is true", p, q)
		}
	}
	for _, q := range good {
		for n := range q.Bits + 1 {
			p, _ := prefix.Of(q.Addr, n)
			if !prefix.Covers(p, q) || n < q.Bits && prefix.Covers(q, p) {
				t.Errorf("D2: Covers of %v and %v", p, q)
			}
		}
	}
}

// TestCoversByEachAddress goes through all addresses of small prefixes.
func TestCoversByEachAddress(t *testing.T) {
	for _, base := range []api.Addr{four(10, 0, 0, 0), api.Addr{Lo: 1<<32 - 16}, six(7, 0), six(all, all-15)} {
		size := len(plain(base))
		var near []api.Prefix
		for n := size - 4; n <= size; n++ {
			for i := uint64(0); i < 16; i += 1 << (size - n) {
				near = append(near, of(api.Addr{Six: base.Six, Hi: base.Hi, Lo: base.Lo + i}, n))
			}
		}
		for _, p := range near {
			for _, q := range near {
				want := true
				for i := range uint64(16) {
					a := api.Addr{Six: base.Six, Hi: base.Hi, Lo: base.Lo + i}
					want = want && (!prefix.Holds(q, a) || prefix.Holds(p, a))
				}
				if got := prefix.Covers(p, q); got != want {
					t.Errorf("D2: Covers(%v, %v) is %t", p, q, got)
				}
			}
		}
	}
}

func TestHalvesExamples(t *testing.T) {
	for _, c := range []struct{ p, x, y api.Prefix }{
		{of(four(10, 0, 0, 0), 8), of(four(10, 0, 0, 0), 9), of(four(10, 128, 0, 0), 9)},
		{of(api.Addr{}, 0), of(api.Addr{}, 1), of(four(128, 0, 0, 0), 1)},
		{of(api.Addr{Lo: 6}, 31), of(api.Addr{Lo: 6}, 32), of(api.Addr{Lo: 7}, 32)},
		{of(six(0, 0), 0), of(six(0, 0), 1), of(six(1<<63, 0), 1)},
		{of(six(5<<32, 0), 32), of(six(5<<32, 0), 33), of(six(5<<32|1<<31, 0), 33)},
		{of(six(2, 0), 63), of(six(2, 0), 64), of(six(3, 0), 64)},
		{of(six(3, 0), 64), of(six(3, 0), 65), of(six(3, 1<<63), 65)},
		{of(six(3, 1<<63), 65), of(six(3, 1<<63), 66), of(six(3, 3<<62), 66)},
		{of(six(all, all-1), 127), of(six(all, all-1), 128), of(six(all, all), 128)},
	} {
		if x, y, e := prefix.Halves(c.p); x != c.x || y != c.y || e != api.OK {
			t.Errorf("D3: Halves(%v) are %v %v %d, not %v %v", c.p, x, y, e, c.x, c.y)
		}
	}
}

func TestHalvesOfEachPrefix(t *testing.T) {
	for _, p := range valid() {
		x, y, e := prefix.Halves(p)
		bits := plain(p.Addr)
		if p.Bits == len(bits) {
			if e != api.ErrArg || x != (api.Prefix{}) || y != (api.Prefix{}) {
				t.Errorf("D3: Halves(%v) are %v %v %d, not ErrArg", p, x, y, e)
			}
			continue
		}
		one := back(bits[:p.Bits] + "1" + bits[p.Bits+1:])
		if e != api.OK || x != of(p.Addr, p.Bits+1) || y != of(one, p.Bits+1) {
			t.Errorf("D3: Halves(%v) are %v %v %d", p, x, y, e)
		}
	}
	for _, p := range wrong() {
		if x, y, e := prefix.Halves(p); e != api.ErrArg || x != (api.Prefix{}) || y != (api.Prefix{}) {
			t.Errorf("D3: Halves(%v) are %v %v %d, not ErrArg", p, x, y, e)
		}
	}
}

func TestCommonExamples(t *testing.T) {
	for _, c := range []struct {
		a, b api.Addr
		want int
	}{
		{four(10, 0, 0, 0), four(10, 128, 0, 0), 8}, {api.Addr{}, api.Addr{}, 32}, {api.Addr{Lo: 1<<32 - 1}, api.Addr{Lo: 1<<32 - 1}, 32},
		{api.Addr{}, four(128, 0, 0, 0), 0}, {api.Addr{}, api.Addr{Lo: 1<<32 - 1}, 0}, {api.Addr{}, api.Addr{Lo: 1}, 31}, {api.Addr{Lo: 2}, api.Addr{Lo: 1}, 30}, {api.Addr{Lo: 5}, api.Addr{Lo: 7}, 30},
		{six(0, 1), six(0, 1), 128}, {six(0, 0), six(0, 0), 128}, {six(all, all), six(all, all), 128},
		{six(0, 0), six(1<<63, 0), 0}, {six(0, 0), six(all, all), 0}, {six(0, 0), six(1, 0), 63}, {six(0, 0), six(1, 1<<63), 63}, {six(2, 0), six(3, all), 63}, {six(0, 0), six(1<<32, 0), 31}, {six(0, 0), six(1<<31, 5), 32},
		{six(0, 0), six(0, 1<<63), 64}, {six(9, 0), six(9, 1<<62), 65}, {six(9, 1), six(9, 0), 127}, {six(9, 7), six(9, 4), 126}, {six(all, all), six(all, all-1), 127},
		{six(0, 0), api.Addr{}, -1}, {api.Addr{}, six(0, 0), -1}, {six(0, 1), api.Addr{Lo: 1}, -1},
		{api.Addr{Lo: 1 << 32}, api.Addr{Lo: 1 << 32}, -1}, {api.Addr{Hi: 1}, api.Addr{Hi: 1}, -1}, {api.Addr{}, api.Addr{Hi: 1}, -1}, {api.Addr{Lo: 1 << 32}, api.Addr{}, -1}, {six(0, 1<<32), api.Addr{Lo: 1 << 32}, -1}, {api.Addr{Hi: 1}, six(1, 0), -1},
	} {
		if got := prefix.Common(c.a, c.b); got != c.want {
			t.Errorf("D3: Common(%v, %v) is %d, not %d", c.a, c.b, got, c.want)
		}
	}
}

// common is what the chapter says of Common, bit by bit.
func common(a, b api.Addr) int {
	x, y := plain(a), plain(b)
	if x == "" || len(x) != len(y) {
		return -1
	}
	for i := range x {
		if x[i] != y[i] {
			return i
		}
	}
	return len(x)
}

func TestCommonOfEachPair(t *testing.T) {
	s := source(8)
	addrs := slices.Concat(edges, wrongAddrs, chance(&s, 60))
	for _, a := range addrs {
		for _, b := range addrs {
			if got, want := prefix.Common(a, b), common(a, b); got != want {
				t.Errorf("D3: Common(%v, %v) is %d, not %d", a, b, got, want)
			}
		}
	}
}

// TestCommonToEachBit has addresses that differ in one bit, or in it and all others behind it.
func TestCommonToEachBit(t *testing.T) {
	s := source(9)
	for _, a := range chance(&s, 5) {
		bits := plain(a)
		for i := range bits {
			other := []byte(bits)
			other[i] ^= 1
			one := back(string(other))
			for j := i; j < len(other); j++ {
				other[j] = bits[j] ^ 1
			}
			rest := back(string(other))
			if n, m := prefix.Common(a, one), prefix.Common(rest, a); n != i || m != i {
				t.Errorf("D3: Common of addresses that differ in bit %d of %d are %d and %d", i, len(bits), n, m)
			}
		}
	}
}

// ordered are valid prefixes, each less than the next one.
var ordered = []api.Prefix{
	of(api.Addr{}, 0), of(api.Addr{}, 1), of(api.Addr{}, 8), of(api.Addr{}, 31), of(api.Addr{}, 32), of(api.Addr{Lo: 1}, 32), of(api.Addr{Lo: 2}, 31), of(api.Addr{Lo: 2}, 32),
	of(four(9, 0, 0, 0), 32), of(four(10, 0, 0, 0), 8), of(four(10, 0, 0, 0), 9), of(four(10, 0, 0, 0), 32), of(four(10, 0, 0, 1), 32), of(four(10, 128, 0, 0), 9), of(four(11, 0, 0, 0), 8),
	of(four(128, 0, 0, 0), 1), of(four(128, 0, 0, 0), 2), of(four(255, 255, 255, 255), 32),
	of(six(0, 0), 0), of(six(0, 0), 1), of(six(0, 0), 32), of(six(0, 0), 64), of(six(0, 0), 128), of(six(0, 1), 128), of(six(0, 10<<24), 104), of(six(0, 1<<63), 65), of(six(0, all), 128),
	of(six(1, 0), 64), of(six(1, 0), 65), of(six(1, 0), 128), of(six(1, 1), 128), of(six(2, 0), 63), of(six(1<<63, 0), 1), of(six(1<<63, 0), 128), of(six(all, all), 128),
}

func TestLessInOrder(t *testing.T) {
	for i, p := range ordered {
		for j, q := range ordered {
			if got := prefix.Less(p, q); got != (i < j) {
				t.Errorf("D4: Less(%v, %v) is %t", p, q, got)
			}
		}
	}
}

func TestLessOfEachPair(t *testing.T) {
	s := source(10)
	good := valid()
	for range 300000 {
		p, q := good[s.below(len(good))], good[s.below(len(good))]
		if s.below(4) == 0 {
			q, _ = prefix.Of(p.Addr, s.below(p.Bits+1))
		}
		// Bits of one length are in the order of their texts, and IPv4 is less.
		x, y := strconv.Itoa(len(plain(p.Addr)))+plain(p.Addr), strconv.Itoa(len(plain(q.Addr)))+plain(q.Addr)
		if p.Addr.Six != q.Addr.Six {
			x, y = strconv.FormatBool(p.Addr.Six), strconv.FormatBool(q.Addr.Six)
		}
		want := x < y || x == y && p.Bits < q.Bits
		if got := prefix.Less(p, q); got != want {
			t.Fatalf("D4: Less(%v, %v) is %t", p, q, got)
		}
		if p != q && prefix.Less(q, p) == want || prefix.Less(p, p) {
			t.Fatalf("D4: of %v and %v, Less is no strict order", p, q)
		}
	}
}

func TestLessOfWrongPrefixes(t *testing.T) {
	for i, p := range wrong() {
		for _, q := range ordered {
			if prefix.Less(p, q) || prefix.Less(q, p) {
				t.Errorf("D4: Less of %v and %v is true", p, q)
			}
		}
		for _, q := range wrong()[i%7 : 400] {
			if prefix.Less(p, q) {
				t.Errorf("D4: Less(%v, %v) is true", p, q)
			}
			if i > 50 {
				break
			}
		}
	}
}

// TestNested holds any two prefixes against each other: one covers the other, or
// they have no address in common.
func TestNested(t *testing.T) {
	s := source(12)
	good := valid()
	for range 100000 {
		p, q := good[s.below(len(good))], good[s.below(len(good))]
		both := false
		for _, x := range [][2]api.Prefix{{p, q}, {q, p}} {
			least, greatest := ends(x[0])
			both = both || prefix.Holds(x[1], least) || prefix.Holds(x[1], greatest)
		}
		if nested := prefix.Covers(p, q) || prefix.Covers(q, p); nested != both {
			t.Errorf("D6: %v and %v have addresses in common: %t, and one covers the other: %t", p, q, both, nested)
		}
		if prefix.Covers(p, q) && prefix.Covers(q, p) != (p == q) {
			t.Errorf("D6: %v and %v cover each other", p, q)
		}
	}
}

func TestEachAddressIsInOneHalf(t *testing.T) {
	s := source(13)
	addrs := slices.Concat(edges, chance(&s, 3))
	for _, p := range valid() {
		x, y, e := prefix.Halves(p)
		if e != api.OK {
			continue
		}
		least, greatest := ends(p)
		_, middle := ends(x)
		if !prefix.Covers(p, x) || !prefix.Covers(p, y) || prefix.Covers(x, p) || prefix.Covers(x, y) || prefix.Covers(y, x) || !prefix.Less(x, y) {
			t.Errorf("D6: %v and %v are no halves of %v", x, y, p)
		}
		for _, a := range append(addrs, least, middle, y.Addr, greatest) {
			inX, inY := prefix.Holds(x, a), prefix.Holds(y, a)
			if (inX != inY) != prefix.Holds(p, a) || inX && inY {
				t.Errorf("D6: of %v, %v holds %v: %t, and %v holds it: %t", p, x, a, inX, y, inY)
			}
		}
	}
}

// TestCommonIsTheLongest holds Common against Covers: no longer prefix has both.
func TestCommonIsTheLongest(t *testing.T) {
	s := source(14)
	addrs := slices.Concat(edges, chance(&s, 10))
	for _, a := range addrs {
		for _, b := range addrs {
			n := prefix.Common(a, b)
			if n < 0 {
				continue
			}
			p, e := prefix.Of(a, n)
			longer, none := prefix.Of(a, n+1)
			if e != api.OK || !prefix.Holds(p, b) || none == api.OK && prefix.Holds(longer, b) {
				t.Errorf("D3: Common(%v, %v) is %d", a, b, n)
			}
		}
	}
}

// TestAsTheLibrary holds the calls against the library's prefixes.
func TestAsTheLibrary(t *testing.T) {
	s := source(15)
	good := valid()
	for range 50000 {
		p, q := good[s.below(len(good))], good[s.below(len(good))]
		x, y := outside(t, p), outside(t, q)
		if got := prefix.Holds(p, q.Addr); got != x.Contains(y.Addr()) {
			t.Errorf("D2: Holds(%v, %v) is %t", x, y.Addr(), got)
		}
		if got := prefix.Covers(p, q) || prefix.Covers(q, p); got != x.Overlaps(y) {
			t.Errorf("D6: one of %v and %v covers the other: %t", x, y, got)
		}
	}
}

// outside is a valid prefix as the library has it.
func outside(t *testing.T, p api.Prefix) netip.Prefix {
	t.Helper()
	bits := plain(p.Addr)
	b := make([]byte, len(bits)/8)
	for i := range b {
		b[i] = byte(value(bits[8*i : 8*i+8]))
	}
	a, ok := netip.AddrFromSlice(b)
	if !ok {
		t.Fatalf("no address: %v", b)
	}
	return netip.PrefixFrom(a, p.Bits)
}

// TestNothingPanics gives each call whatever may be given to it.
func TestNothingPanics(t *testing.T) {
	addrs := slices.Concat(edges, wrongAddrs)
	numbers := slices.Clone(wrongBits)
	for n := -1; n < 130; n++ {
		numbers = append(numbers, n)
	}
	var prefixes []api.Prefix
	for _, a := range addrs {
		for _, n := range numbers {
			p := of(a, n)
			kept := p
			prefixes = append(prefixes, p)
			prefix.Of(a, n)
			prefix.Bit(a, n)
			prefix.Valid(p)
			prefix.Halves(p)
			prefix.Print(p)
			if p != kept {
				t.Errorf("%v has become %v", kept, p)
			}
		}
		for _, b := range addrs {
			prefix.Common(a, b)
		}
	}
	s := source(16)
	for range 300000 {
		p, q := prefixes[s.below(len(prefixes))], prefixes[s.below(len(prefixes))]
		kept := [2]api.Prefix{p, q}
		prefix.Holds(p, q.Addr)
		prefix.Covers(p, q)
		prefix.Less(p, q)
		if kept != [2]api.Prefix{p, q} {
			t.Errorf("%v have become %v %v", kept, p, q)
		}
	}
}
