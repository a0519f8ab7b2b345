package ether_test

import (
	"math"
	"strings"
	"testing"
	"unsafe"

	"crossway/api"
	"crossway/ether"
)

// source tells numbers that look like chance, the same ones in each run.
type source uint64

func (s *source) next() uint64 {
	*s = *s*6364136223846793005 + 1442695040888963407
	return uint64(*s ^ *s>>29)
}

func (s *source) below(n int) int { return int(s.next() >> 11 % uint64(n)) }

// text is so many bytes that look like chance.
func (s *source) text(n int) string {
	b := make([]byte, n)
	for i := range b {
		b[i] = byte(s.next() >> 20)
	}
	return string(b)
}

// start is the beginning of a text, to be told.
func start(s string) string {
	return s[:min(len(s), 60)]
}

// big is a number in so many bytes, the most significant one first.
func big(n uint64, width int) string {
	b := make([]byte, width)
	for i := range b {
		b[i] = byte(n >> (8 * (width - 1 - i)))
	}
	return string(b)
}

// plain is the bytes of a frame, without padding.
func plain(f api.Frame) string {
	return big(uint64(f.To), 6) + big(uint64(f.From), 6) + big(uint64(f.Kind), 2) + f.Data
}

// padded is a text, with zeros behind it if it is shorter than so many bytes.
func padded(s string, n int) string {
	for len(s) < n {
		s += "\x00"
	}
	return s
}

// everyByte is bytes of all values.
var everyByte = func() string {
	b := make([]byte, 256)
	for i := range b {
		b[i] = byte(i)
	}
	return string(b)
}()

// goodMacs are link-layer addresses that are valid, and wrongMacs ones that are not.
var (
	goodMacs  = []api.Mac{0, 1, 2, 255, 256, 0x010203040506, 0x800000000000, 0x808182838485, 0xfefdfcfbfaf9, 1<<48 - 2, 1<<48 - 1}
	wrongMacs = []api.Mac{1 << 48, 1<<48 + 1, 1<<48 + 2, 1 << 49, 1 << 56, 1 << 63, math.MaxUint64 - 1, math.MaxUint64}
)

// goodKinds are kinds of frames, and wrongKinds numbers that are none.
var (
	goodKinds  = []int{1536, 1537, 2047, api.KindFour, api.KindArp, 32767, 32768, api.KindSix, 65279, 65280, 65534, 65535}
	wrongKinds = []int{-1, 0, 1, 255, 256, 1500, 1534, 1535, 65536, 65537, 65536 + api.KindFour, 1<<32 + api.KindFour, -65536 + api.KindFour, -api.KindFour, math.MinInt, math.MinInt + api.KindFour, math.MaxInt}
)

func expectLay(t *testing.T, f api.Frame, want string) {
	t.Helper()
	kept := f
	if s, e := ether.Lay(f); s != want || e != api.OK {
		t.Errorf("E1: Lay of %x to %x, kind %d, %d bytes %q, is %d bytes %q %d", f.From, f.To, f.Kind, len(f.Data), start(f.Data), len(s), start(s), e)
	}
	if f != kept {
		t.Errorf("R3: the frame %v has become %v", kept, f)
	}
}

func expectLayError(t *testing.T, f api.Frame, want api.Errno) {
	t.Helper()
	if s, e := ether.Lay(f); s != "" || e != want {
		t.Errorf("E1: Lay of %x to %x, kind %d, %d bytes, is %q %d, not the error %d", f.From, f.To, f.Kind, len(f.Data), start(s), e, want)
	}
}

func expectTake(t *testing.T, s string, want api.Frame) {
	t.Helper()
	if f, e := ether.Take(s); f != want || e != api.OK {
		t.Errorf("E2: Take of %d bytes %q is %x to %x, kind %d, %d bytes, %d", len(s), start(s), f.From, f.To, f.Kind, len(f.Data), e)
	}
}

func expectTakeError(t *testing.T, s string, want api.Errno) {
	t.Helper()
	if f, e := ether.Take(s); f != (api.Frame{}) || e != want {
		t.Errorf("E2: Take of %d bytes %q is %v %d, not the error %d", len(s), start(s), f, e, want)
	}
}

func TestLayExample(t *testing.T) {
	f := api.Frame{To: 1, From: 2, Kind: 2048, Data: "ab"}
	s := string([]byte{0, 0, 0, 0, 0, 1, 0, 0, 0, 0, 0, 2, 8, 0, 97, 98}) + strings.Repeat("\x00", 44)
	expectLay(t, f, s)
	f.Data = padded("ab", 46)
	expectTake(t, s, f)
	f = api.Frame{To: 0x010203040506, From: 0xf1f2f3f4f5f6, Kind: 0x86dd, Data: padded("", 46) + "x"}
	s = "\x01\x02\x03\x04\x05\x06\xf1\xf2\xf3\xf4\xf5\xf6\x86\xdd" + f.Data
	expectLay(t, f, s)
	expectTake(t, s, f)
}

func TestLayEachLength(t *testing.T) {
	s := source(1)
	for n := range api.MaxMtu + 1 {
		f := api.Frame{To: 3, From: 1<<48 - 2, Kind: api.KindSix, Data: s.text(n)}
		expectLay(t, f, padded(plain(f), 60))
		f.Data = strings.Repeat("\xff", n)
		expectLay(t, f, padded(plain(f), 60))
		f.Data = strings.Repeat("\x00", n)
		expectLay(t, f, padded(plain(f), 60))
	}
	for n, want := range map[int]int{0: 60, 1: 60, 45: 60, 46: 60, 47: 61, 1499: 1513, 1500: 1514} {
		s, e := ether.Lay(api.Frame{Kind: api.KindFour, Data: strings.Repeat("x", n)})
		if len(s) != want || e != api.OK {
			t.Errorf("E1: of %d bytes of Data a frame has %d bytes, %d", n, len(s), e)
		}
	}
	for _, n := range []int{1501, 1502, 1514, 1515, 3000, 65535, 65536, 1 << 20} {
		expectLayError(t, api.Frame{Kind: api.KindFour, Data: strings.Repeat("x", n)}, api.ErrEtherLong)
		expectLayError(t, api.Frame{To: 1<<48 - 1, From: 1<<48 - 1, Kind: 65535, Data: strings.Repeat("\x00", n)}, api.ErrEtherLong)
	}
}

func TestLayEachByte(t *testing.T) {
	for _, data := range []string{everyByte, everyByte[1:], everyByte[128:], "\xff", "\x80\xc3\x28", "\u00e4\u65e5\U0001f600", "\x00\x00x", "x\x00\x00"} {
		f := api.Frame{To: 1, From: 2, Kind: api.KindFour, Data: data}
		expectLay(t, f, padded(plain(f), 60))
	}
	for i := range 48 {
		expectLay(t, api.Frame{To: 1 << i, Kind: api.KindFour}, padded(big(1<<i, 6)+"\x00\x00\x00\x00\x00\x00\x08\x00", 60))
		expectLay(t, api.Frame{From: 1 << i, Kind: api.KindFour}, padded("\x00\x00\x00\x00\x00\x00"+big(1<<i, 6)+"\x08\x00", 60))
	}
}

func TestLayValidFrames(t *testing.T) {
	for _, to := range goodMacs {
		for _, from := range goodMacs {
			for _, kind := range goodKinds {
				f := api.Frame{To: to, From: from, Kind: kind, Data: "data"}
				expectLay(t, f, padded(plain(f), 60))
			}
		}
	}
}

// TestLayFaults has frames with one fault, and with several: that of its form comes
// ahead of its length.
func TestLayFaults(t *testing.T) {
	for _, n := range []int{0, 46, 1500, 1501, 1 << 17} {
		data := strings.Repeat("\x01", n)
		for _, wrong := range wrongMacs {
			expectLayError(t, api.Frame{To: wrong, Kind: api.KindFour, Data: data}, api.ErrEtherForm)
			expectLayError(t, api.Frame{From: wrong, Kind: api.KindFour, Data: data}, api.ErrEtherForm)
			expectLayError(t, api.Frame{To: wrong, From: wrong, Kind: api.KindFour, Data: data}, api.ErrEtherForm)
			expectLayError(t, api.Frame{To: wrong, From: 1, Kind: 1535, Data: data}, api.ErrEtherForm)
			expectLayError(t, api.Frame{To: 1, From: wrong, Kind: 65536, Data: data}, api.ErrEtherForm)
		}
		for _, wrong := range wrongKinds {
			for _, mac := range goodMacs {
				expectLayError(t, api.Frame{To: mac, From: 1, Kind: wrong, Data: data}, api.ErrEtherForm)
				expectLayError(t, api.Frame{To: 1, From: mac, Kind: wrong, Data: data}, api.ErrEtherForm)
			}
		}
	}
}

func TestTakeEachLength(t *testing.T) {
	s := source(2)
	for n := range 1520 {
		for _, kind := range []uint64{0x0800, 0x0806, 0x86dd, 1536, 65535} {
			x := s.text(12) + big(kind, 2) + s.text(1506)
			x = x[:n]
			switch {
			case n < 14:
				expectTakeError(t, x, api.ErrEtherShort)
			case n > 1514:
				expectTakeError(t, x, api.ErrEtherLong)
			default:
				expectTake(t, x, api.Frame{To: mac(x[:6]), From: mac(x[6:12]), Kind: int(kind), Data: x[14:]})
			}
		}
	}
}

// mac is the number of six bytes.
func mac(s string) api.Mac {
	var m api.Mac
	for i := range 6 {
		m = m*256 + api.Mac(s[i])
	}
	return m
}

func TestTakeEachKind(t *testing.T) {
	for kind := range 65536 {
		s := "\xff\xff\xff\xff\xff\xff\x00\x00\x00\x00\x00\x05" + big(uint64(kind), 2) + "\xfe"
		if kind < 1536 {
			expectTakeError(t, s, api.ErrEtherForm)
		} else {
			expectTake(t, s, api.Frame{To: 1<<48 - 1, From: 5, Kind: kind, Data: "\xfe"})
		}
	}
}

// TestTakeFaults has bytes with several faults: their number comes ahead of the Kind.
func TestTakeFaults(t *testing.T) {
	for _, fill := range []string{"\x00", "\x01", "\x05", "\x06", "\x7f", "\x80", "\xff"} {
		for _, n := range []int{0, 1, 12, 13} {
			expectTakeError(t, strings.Repeat(fill, n), api.ErrEtherShort)
		}
		for _, n := range []int{1515, 1516, 65535, 1 << 20} {
			expectTakeError(t, strings.Repeat(fill, n), api.ErrEtherLong)
		}
	}
	for _, n := range []int{14, 15, 59, 60, 61, 1513, 1514} {
		for _, fill := range []string{"\x00", "\x01", "\x05"} {
			expectTakeError(t, strings.Repeat(fill, n), api.ErrEtherForm)
		}
		for _, fill := range []string{"\x06", "\x7f", "\x80", "\xff"} {
			s := strings.Repeat(fill, n)
			expectTake(t, s, api.Frame{To: mac(s), From: mac(s), Kind: int(fill[0]) * 257, Data: s[14:]})
		}
	}
}

func TestTakeEachByte(t *testing.T) {
	for i := range everyByte {
		x := everyByte[i:] + everyByte[:i]
		s := x[:12] + "\x08\x00" + x
		expectTake(t, s, api.Frame{To: mac(x[:6]), From: mac(x[6:]), Kind: api.KindFour, Data: x})
	}
}

func TestTakeUndoesLay(t *testing.T) {
	s := source(3)
	for range 20000 {
		f := api.Frame{
			To: api.Mac(s.next() >> 16), From: api.Mac(s.next() >> 16),
			Kind: 1536 + s.below(65536-1536), Data: s.text(s.below(1501)),
		}
		if s.below(2) == 0 {
			f.Data = f.Data[:len(f.Data)%64]
		}
		laid, e := ether.Lay(f)
		if e != api.OK || len(laid) < 60 || len(laid) > 1514 {
			t.Fatalf("E1: Lay of %v is %d bytes %d", f, len(laid), e)
		}
		f.Data = padded(f.Data, 46)
		if got, e := ether.Take(laid); got != f || e != api.OK {
			t.Errorf("E6: Take of what Lay made of %v is %v %d", f, got, e)
		}
	}
}

func TestLayUndoesTake(t *testing.T) {
	s := source(4)
	for n := 14; n <= 1514; n++ {
		x := s.text(12) + big(uint64(1536+s.below(64000)), 2) + s.text(n-14)
		f, e := ether.Take(x)
		if e != api.OK {
			t.Fatalf("E2: Take of %d bytes is %d", n, e)
		}
		// Of fewer bytes than a frame has, Lay makes so many.
		if back, e := ether.Lay(f); back != padded(x, 60) || e != api.OK {
			t.Errorf("E6: Lay of what Take made of %d bytes %q is %d bytes %q %d", n, start(x), len(back), start(back), e)
		}
	}
}

func TestFramesAreIndependent(t *testing.T) {
	s := plain(api.Frame{To: 1, From: 2, Kind: api.KindFour, Data: "data"})
	x, _ := ether.Take(s)
	y, _ := ether.Take(s)
	b := []byte(x.Data)
	b[0] = 'X'
	x.To, x.From, x.Kind, x.Data = 9, 9, 9, string(b)
	if want := (api.Frame{To: 1, From: 2, Kind: api.KindFour, Data: "data"}); y != want {
		t.Errorf("R3: a frame that was written over changes another one: %v", y)
	}
	expectTake(t, s, y)
}

// TestFramesKeepNoBytes writes over the memory of the texts that were given, which
// nothing but such a trick can do: no result may change with it.
func TestFramesKeepNoBytes(t *testing.T) {
	b := []byte(plain(api.Frame{To: 1, From: 2, Kind: api.KindFour, Data: strings.Repeat("data", 20)}))
	f, _ := ether.Take(unsafe.String(&b[0], len(b)))
	s, _ := ether.Lay(api.Frame{Kind: api.KindFour, Data: unsafe.String(&b[0], len(b))})
	want := plain(api.Frame{Kind: api.KindFour, Data: string(b)})
	for i := range b {
		b[i] = 'X'
	}
	if f.Data != strings.Repeat("data", 20) {
		t.Errorf("R3: a frame shares its bytes with what Take was given: %q", start(f.Data))
	}
	if s != want {
		t.Errorf("R3: the bytes of a frame are shared with what Lay was given: %q", start(s))
	}
}

// TestFramesOfAnyBytes gives the calls whatever may be given to them.
func TestFramesOfAnyBytes(t *testing.T) {
	s := source(5)
	for range 50000 {
		x := s.text(s.below(80))
		f, e := ether.Take(x)
		switch {
		case len(x) < 14:
			expectTakeError(t, x, api.ErrEtherShort)
		case x[12] < 6:
			expectTakeError(t, x, api.ErrEtherForm)
		case e != api.OK || plain(f) != x:
			t.Errorf("E2: Take(%q) is %v %d", x, f, e)
		}
	}
	for range 50000 {
		f := api.Frame{To: api.Mac(s.next() >> s.below(64)), From: api.Mac(s.next() >> s.below(64)), Kind: int(s.next()) >> s.below(64), Data: s.text(s.below(10))}
		if f.To>>48 != 0 || f.From>>48 != 0 || f.Kind < 1536 || f.Kind > 65535 {
			expectLayError(t, f, api.ErrEtherForm)
		} else {
			expectLay(t, f, padded(plain(f), 60))
		}
	}
}
