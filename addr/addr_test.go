package addr_test

import (
	"math"
	"net/netip"
	"slices"
	"testing"

	"crossway/addr"
	"crossway/api"
)

// spare is what stands behind the length of each slice that room makes.
var spare = []byte{201, 202, 203, 204, 205, 206, 207, 208, 209, 210, 211, 212, 213, 214, 215, 216, 217}

// room is a slice whose memory goes on behind its length: the bytes asked for,
// then spare ones that no call may read or write.
func room(b ...byte) []byte {
	whole := append(slices.Clone(b), spare...)
	return whole[:len(b)]
}

// untouched tells whether a slice made by room is as it was, its spare bytes too.
func untouched(b []byte, want ...byte) bool {
	whole := b[:len(b)+len(spare)]
	return slices.Equal(b, want) && slices.Equal(whole[len(b):], spare)
}

// scribble writes into all of a result's memory, the spare capacity too.
func scribble(b []byte) {
	b = b[:cap(b)]
	for i := range b {
		b[i] = 0xEE
	}
}

// source tells numbers that look like chance, the same ones in each run.
type source uint64

func (s *source) next() uint64 {
	*s = *s*6364136223846793005 + 1442695040888963407
	return uint64(*s ^ *s>>29)
}

func (s *source) below(n int) int { return int(s.next() >> 11 % uint64(n)) }

// four is the IPv4 address of four bytes.
func four(a, b, c, d uint64) api.Addr {
	return api.Addr{Lo: a<<24 | b<<16 | c<<8 | d}
}

// six is the IPv6 address of eight groups.
func six(g ...uint64) api.Addr {
	return api.Addr{Six: true, Hi: g[0]<<48 | g[1]<<32 | g[2]<<16 | g[3], Lo: g[4]<<48 | g[5]<<32 | g[6]<<16 | g[7]}
}

// outside is a valid address as the library has it, told without package addr.
func outside(a api.Addr) netip.Addr {
	if !a.Six {
		return netip.AddrFrom4([4]byte{byte(a.Lo >> 24), byte(a.Lo >> 16), byte(a.Lo >> 8), byte(a.Lo)})
	}
	var b [16]byte
	for i := range 8 {
		b[7-i] = byte(a.Hi >> (8 * i))
		b[15-i] = byte(a.Lo >> (8 * i))
	}
	return netip.AddrFrom16(b)
}

// mapped tells whether the library treats an address as one of the other family.
func mapped(a api.Addr) bool {
	return a.Six && a.Hi == 0 && a.Lo>>32 == 0xffff
}

// wrong are addresses that are not valid.
var wrong = []api.Addr{
	{Lo: 1 << 32}, {Lo: 1<<32 + 1}, {Lo: 1 << 33}, {Lo: 1 << 63}, {Lo: math.MaxUint64},
	{Lo: 0xfe80 << 48}, {Lo: 0xff02 << 48}, {Lo: 127<<24 | 1<<32},
	{Hi: 1}, {Hi: 1 << 32}, {Hi: 1 << 63}, {Hi: math.MaxUint64},
	{Hi: 1, Lo: 1}, {Hi: 1, Lo: 1<<32 - 1}, {Hi: 1, Lo: 1 << 32}, {Hi: 0xfe80 << 48}, {Hi: math.MaxUint64, Lo: math.MaxUint64},
}

// ordered are valid addresses, each less than the next one.
var ordered = []api.Addr{
	{}, {Lo: 1}, {Lo: 2}, {Lo: 255}, {Lo: 256}, {Lo: 1<<24 - 1}, {Lo: 10 << 24}, {Lo: 10<<24 + 1},
	{Lo: 127<<24 - 1}, {Lo: 127 << 24}, {Lo: 128<<24 - 1}, {Lo: 128 << 24}, {Lo: 169<<24 + 254<<16},
	{Lo: 1<<31 + 1<<30}, {Lo: 224 << 24}, {Lo: 240 << 24}, {Lo: 1<<32 - 2}, {Lo: 1<<32 - 1},
	{Six: true}, {Six: true, Lo: 1}, {Six: true, Lo: 2}, {Six: true, Lo: 1<<32 - 1}, {Six: true, Lo: 1 << 32},
	{Six: true, Lo: 0xffff << 32}, {Six: true, Lo: 1<<63 - 1}, {Six: true, Lo: 1 << 63}, {Six: true, Lo: math.MaxUint64},
	{Six: true, Hi: 1}, {Six: true, Hi: 1, Lo: 1}, {Six: true, Hi: 1, Lo: math.MaxUint64},
	{Six: true, Hi: 2}, {Six: true, Hi: 1<<32 - 1}, {Six: true, Hi: 1 << 32}, {Six: true, Hi: 0x2001 << 48, Lo: 1},
	{Six: true, Hi: 1<<63 - 1, Lo: 7}, {Six: true, Hi: 1 << 63}, {Six: true, Hi: 0xfe80 << 48, Lo: 1},
	{Six: true, Hi: 0xff02 << 48, Lo: 1}, {Six: true, Hi: math.MaxUint64}, {Six: true, Hi: math.MaxUint64, Lo: math.MaxUint64},
}

// many are valid addresses of both families: the ordered ones, those with each
// group 0, 1 or something longer, and others that look like chance.
func many() []api.Addr {
	all := slices.Clone(ordered)
	s := source(3)
	for mask := range 256 {
		for _, fill := range []uint64{1, 0x1000, 0xffff} {
			var g [8]uint64
			for i := range g {
				if mask>>i&1 == 1 {
					g[i] = fill
				}
			}
			all = append(all, six(g[:]...))
		}
	}
	for range 2000 {
		all = append(all, api.Addr{Lo: s.next() >> 32}, api.Addr{Six: true, Hi: s.next(), Lo: s.next()})
		var g [8]uint64
		for i := range g {
			g[i] = s.next() >> 48 >> (4 * s.below(5))
		}
		all = append(all, six(g[:]...))
	}
	return all
}

func TestValid(t *testing.T) {
	for _, a := range ordered {
		if !addr.Valid(a) {
			t.Errorf("B1: Valid(%v) is false", a)
		}
	}
	for _, a := range wrong {
		if addr.Valid(a) {
			t.Errorf("B1: Valid(%v) is true", a)
		}
		a.Six = true
		if !addr.Valid(a) {
			t.Errorf("B1: Valid(%v) is false", a)
		}
	}
	for i := range 64 {
		if got, want := addr.Valid(api.Addr{Lo: 1 << i}), i < 32; got != want {
			t.Errorf("B1: Valid of an address of the one bit %d is %t", i, got)
		}
		if addr.Valid(api.Addr{Hi: 1 << i}) {
			t.Errorf("B1: Valid of an address of the one bit %d of Hi is true", i)
		}
	}
}

// expectOf holds Of of some bytes against an address.
func expectOf(t *testing.T, b []byte, want api.Addr, wantErr api.Errno) {
	t.Helper()
	if a, e := addr.Of(b); a != want || e != wantErr {
		t.Errorf("B3: Of(%v) is %v %d, not %v %d", b, a, e, want, wantErr)
	}
}

func TestOfExamples(t *testing.T) {
	expectOf(t, []byte{10, 0, 0, 1}, four(10, 0, 0, 1), api.OK)
	expectOf(t, []byte{1, 2, 3, 4}, four(1, 2, 3, 4), api.OK)
	expectOf(t, []byte{255, 254, 253, 252}, four(255, 254, 253, 252), api.OK)
	expectOf(t, []byte{255, 255, 255, 255}, api.Addr{Lo: 1<<32 - 1}, api.OK)
	expectOf(t, make([]byte, 4), api.Addr{}, api.OK)
	expectOf(t, make([]byte, 16), api.Addr{Six: true}, api.OK)
	expectOf(t, []byte{1, 2, 3, 4, 5, 6, 7, 8, 9, 10, 11, 12, 13, 14, 15, 16},
		api.Addr{Six: true, Hi: 0x0102030405060708, Lo: 0x090a0b0c0d0e0f10}, api.OK)
	expectOf(t, slices.Repeat([]byte{255}, 16), api.Addr{Six: true, Hi: math.MaxUint64, Lo: math.MaxUint64}, api.OK)
	// Four bytes in sixteen are still an IPv6 address.
	expectOf(t, []byte{0, 0, 0, 0, 0, 0, 0, 0, 0, 0, 255, 255, 10, 0, 0, 1}, six(0, 0, 0, 0, 0, 0xffff, 0x0a00, 1), api.OK)
}

func TestOfEachLength(t *testing.T) {
	expectOf(t, nil, api.Addr{}, api.ErrAddrForm)
	for n := range 100 {
		b := make([]byte, n)
		for i := range b {
			b[i] = byte(100 + i)
		}
		b = room(b...)
		kept := slices.Clone(b)
		switch n {
		case 4:
			expectOf(t, b, api.Addr{Lo: 0x64656667}, api.OK)
		case 16:
			expectOf(t, b, api.Addr{Six: true, Hi: 0x6465666768696a6b, Lo: 0x6c6d6e6f70717273}, api.OK)
		default:
			expectOf(t, b, api.Addr{}, api.ErrAddrForm)
		}
		if !untouched(b, kept...) {
			t.Errorf("B3: Of of %d bytes wrote into its argument, or behind it", n)
		}
	}
	expectOf(t, make([]byte, 1<<20), api.Addr{}, api.ErrAddrForm)
}

func TestOfEachPosition(t *testing.T) {
	for _, size := range []int{4, 16} {
		for i := range size {
			b := make([]byte, size)
			b[i] = 129
			want := api.Addr{Six: size == 16}
			if down := 8 * (size - 1 - i); down < 64 {
				want.Lo = 129 << down
			} else {
				want.Hi = 129 << (down - 64)
			}
			expectOf(t, b, want, api.OK)
			if got := addr.Bytes(want); !slices.Equal(got, b) {
				t.Errorf("B3: Bytes(%v) is %v, not %v", want, got, b)
			}
		}
	}
}

func TestBytes(t *testing.T) {
	for _, c := range []struct {
		a    api.Addr
		want []byte
	}{
		{api.Addr{}, []byte{0, 0, 0, 0}},
		{four(10, 0, 0, 1), []byte{10, 0, 0, 1}},
		{four(1, 2, 3, 4), []byte{1, 2, 3, 4}},
		{api.Addr{Lo: 1<<32 - 1}, []byte{255, 255, 255, 255}},
		{api.Addr{Six: true}, make([]byte, 16)},
		{api.Addr{Six: true, Lo: 1 << 32}, []byte{0, 0, 0, 0, 0, 0, 0, 0, 0, 0, 0, 1, 0, 0, 0, 0}},
		{api.Addr{Six: true, Hi: 0x0102030405060708, Lo: 0x090a0b0c0d0e0f10}, []byte{1, 2, 3, 4, 5, 6, 7, 8, 9, 10, 11, 12, 13, 14, 15, 16}},
		{api.Addr{Six: true, Hi: math.MaxUint64, Lo: math.MaxUint64}, slices.Repeat([]byte{255}, 16)},
	} {
		if got := addr.Bytes(c.a); !slices.Equal(got, c.want) {
			t.Errorf("B3: Bytes(%v) is %v, not %v", c.a, got, c.want)
		}
	}
	for _, a := range wrong {
		if got := addr.Bytes(a); len(got) != 0 {
			t.Errorf("B3: Bytes(%v) is %v", a, got)
		}
	}
	for _, a := range many() {
		if got, want := addr.Bytes(a), outside(a).AsSlice(); !slices.Equal(got, want) {
			t.Errorf("B3: Bytes(%v) is %v, not %v", a, got, want)
		}
	}
}

func TestBytesAreNewMemory(t *testing.T) {
	for _, a := range append(slices.Clone(ordered), wrong...) {
		first := addr.Bytes(a)
		kept := slices.Clone(first)
		second := addr.Bytes(a)
		scribble(second)
		_ = append(second, 77)
		if !slices.Equal(first, kept) || !slices.Equal(addr.Bytes(a), kept) {
			t.Errorf("B3: two results of Bytes(%v) share memory", a)
		}
	}
}

func TestOfKeepsNoArgument(t *testing.T) {
	b := room(1, 2, 3, 4, 5, 6, 7, 8, 9, 10, 11, 12, 13, 14, 15, 16)
	a, _ := addr.Of(b)
	small, _ := addr.Of(b[:4])
	scribble(b)
	if a != (api.Addr{Six: true, Hi: 0x0102030405060708, Lo: 0x090a0b0c0d0e0f10}) || small != four(1, 2, 3, 4) {
		t.Errorf("B3: an address changes with the bytes that it was made of")
	}
	if got := addr.Bytes(a); !slices.Equal(got, []byte{1, 2, 3, 4, 5, 6, 7, 8, 9, 10, 11, 12, 13, 14, 15, 16}) {
		t.Errorf("B3: Bytes are %v", got)
	}
}

func TestLessInOrder(t *testing.T) {
	for i, a := range ordered {
		for j, b := range ordered {
			if got := addr.Less(a, b); got != (i < j) {
				t.Errorf("B4: Less(%v, %v) is %t", a, b, got)
			}
		}
	}
}

func TestLessOfWrongAddresses(t *testing.T) {
	for _, a := range wrong {
		for _, b := range slices.Concat(ordered, wrong) {
			if addr.Less(a, b) || addr.Less(b, a) {
				t.Errorf("B4: Less of %v and %v is true", a, b)
			}
		}
	}
}

func TestLessIsATotalOrder(t *testing.T) {
	all := many()
	for _, a := range all {
		if addr.Less(a, a) {
			t.Fatalf("B7: Less(%v, %v) is true", a, a)
		}
	}
	s := source(5)
	for range 300000 {
		a, b, c := all[s.below(len(all))], all[s.below(len(all))], all[s.below(len(all))]
		want := outside(a).Compare(outside(b))
		if less, more := addr.Less(a, b), addr.Less(b, a); less != (want < 0) || more != (want > 0) {
			t.Fatalf("B7: of %v and %v, Less is %t one way and %t the other", a, b, less, more)
		}
		if addr.Less(a, b) && addr.Less(b, c) && !addr.Less(a, c) {
			t.Fatalf("B7: Less is not transitive: %v, %v, %v", a, b, c)
		}
	}
}

func TestSolicited(t *testing.T) {
	for _, c := range []struct{ a, want api.Addr }{
		{six(0xfe80, 0, 0, 0, 0, 1, 2, 3), six(0xff02, 0, 0, 0, 0, 1, 0xff02, 3)},
		{api.Addr{Six: true}, six(0xff02, 0, 0, 0, 0, 1, 0xff00, 0)},
		{api.Addr{Six: true, Lo: 1}, six(0xff02, 0, 0, 0, 0, 1, 0xff00, 1)},
		{api.Addr{Six: true, Lo: 1<<24 - 1}, six(0xff02, 0, 0, 0, 0, 1, 0xffff, 0xffff)},
		{api.Addr{Six: true, Lo: 1 << 23}, six(0xff02, 0, 0, 0, 0, 1, 0xff80, 0)},
		{api.Addr{Six: true, Lo: 1 << 24}, six(0xff02, 0, 0, 0, 0, 1, 0xff00, 0)},
		{api.Addr{Six: true, Hi: math.MaxUint64, Lo: math.MaxUint64}, six(0xff02, 0, 0, 0, 0, 1, 0xffff, 0xffff)},
		{six(0x2001, 0xdb8, 3, 4, 5, 6, 0x1278, 0x9abc), six(0xff02, 0, 0, 0, 0, 1, 0xff78, 0x9abc)},
	} {
		if got := addr.Solicited(c.a); got != c.want {
			t.Errorf("B6: Solicited(%v) is %v, not %v", c.a, got, c.want)
		}
	}
	for i := range 128 {
		a, want := api.Addr{Six: true}, six(0xff02, 0, 0, 0, 0, 1, 0xff00, 0)
		if i < 64 {
			a.Lo = 1 << i
		} else {
			a.Hi = 1 << (i - 64)
		}
		if i < 24 {
			want.Lo |= 1 << i
		}
		if got := addr.Solicited(a); got != want {
			t.Errorf("B6: Solicited of the one bit %d is %v, not %v", i, got, want)
		}
	}
}

func TestSolicitedOfNoSix(t *testing.T) {
	for _, a := range slices.Concat(ordered, wrong) {
		if a.Six {
			continue
		}
		if got := addr.Solicited(a); got != (api.Addr{}) {
			t.Errorf("B6: Solicited(%v) is %v", a, got)
		}
	}
}
