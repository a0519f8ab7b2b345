package octet_test

import (
	"math"
	"slices"
	"testing"

	"crossway/octet"
)

// room is a slice whose memory goes on behind its length: the bytes asked for,
// then spare ones that no call may read or write.
func room(b ...byte) []byte {
	whole := append(slices.Clone(b), spare...)
	return whole[:len(b)]
}

// spare is what stands behind the length of each slice that room makes.
var spare = []byte{201, 202, 203, 204, 205, 206, 207, 208, 209}

// untouched tells whether a slice made by room is as it was, its spare bytes too.
func untouched(b []byte, want ...byte) bool {
	whole := b[:len(b)+len(spare)]
	return slices.Equal(b, want) && slices.Equal(whole[len(b):], spare)
}

// scribble writes into all of a result's memory, the spare capacity too.
func scribble(b []byte) {
	b = b[:cap(b)]
	for i := range b {
		b[i] = 0xEE
	}
}

// wide is a number whose bytes are all different: 1, 2, .. 8.
const wide = 0x0102030405060708

// oddWidths are numbers that are not from 0 to 8.
var oddWidths = []int{math.MinInt, math.MinInt + 1, -9, -8, -2, -1, 9, 10, 16, 64, math.MaxInt - 1, math.MaxInt}

func TestPutEachWidth(t *testing.T) {
	for _, c := range []struct {
		width int
		n     uint64
		want  []byte
	}{
		{0, 0, nil}, {0, wide, nil}, {0, math.MaxUint64, nil},
		{1, 0, []byte{0}}, {1, 255, []byte{255}}, {1, 256, []byte{0}}, {1, 258, []byte{2}}, {1, wide, []byte{8}},
		{2, 1, []byte{0, 1}}, {2, 258, []byte{1, 2}}, {2, 65535, []byte{255, 255}}, {2, 65536, []byte{0, 0}}, {2, wide, []byte{7, 8}},
		{3, 258, []byte{0, 1, 2}}, {3, wide, []byte{6, 7, 8}}, {3, 1 << 24, []byte{0, 0, 0}},
		{4, wide, []byte{5, 6, 7, 8}}, {4, 1 << 31, []byte{128, 0, 0, 0}}, {4, 1 << 32, []byte{0, 0, 0, 0}},
		{5, wide, []byte{4, 5, 6, 7, 8}}, {5, 1 << 32, []byte{1, 0, 0, 0, 0}},
		{6, wide, []byte{3, 4, 5, 6, 7, 8}},
		{7, wide, []byte{2, 3, 4, 5, 6, 7, 8}},
		{8, 0, []byte{0, 0, 0, 0, 0, 0, 0, 0}}, {8, wide, []byte{1, 2, 3, 4, 5, 6, 7, 8}},
		{8, math.MaxUint64, []byte{255, 255, 255, 255, 255, 255, 255, 255}}, {8, 1 << 63, []byte{128, 0, 0, 0, 0, 0, 0, 0}},
	} {
		if got := octet.Put(nil, c.width, c.n); !slices.Equal(got, c.want) {
			t.Errorf("C1: Put(nil, %d, %d) is %v, not %v", c.width, c.n, got, c.want)
		}
		front := []byte{9, 0, 255}
		want := slices.Concat(front, c.want)
		if got := octet.Put(front, c.width, c.n); !slices.Equal(got, want) {
			t.Errorf("C1: Put(%v, %d, %d) is %v, not %v", front, c.width, c.n, got, want)
		}
	}
}

func TestPutOddWidths(t *testing.T) {
	for _, width := range oddWidths {
		want := []byte{9}
		if width > 8 {
			want = []byte{9, 1, 2, 3, 4, 5, 6, 7, 8}
		}
		if got := octet.Put([]byte{9}, width, wide); !slices.Equal(got, want) {
			t.Errorf("C1: Put((9), %d, %d) is %v, not %v", width, uint64(wide), got, want)
		}
	}
	if got := octet.Put([]byte{}, 9, 1); !slices.Equal(got, []byte{0, 0, 0, 0, 0, 0, 0, 1}) {
		t.Errorf("C1: Put((), 9, 1) is %v", got)
	}
	if got := octet.Put(nil, -1, wide); len(got) != 0 {
		t.Errorf("C1: Put(nil, -1, n) is %v", got)
	}
}

func TestPutLeavesItsArgument(t *testing.T) {
	for width := -1; width <= 9; width++ {
		b := room(4, 5, 6)
		got := octet.Put(b, width, wide)
		if !untouched(b, 4, 5, 6) {
			t.Errorf("C1: Put of width %d wrote into its argument, or behind it: %v", width, b[:cap(b)])
		}
		scribble(got)
		if !untouched(b, 4, 5, 6) {
			t.Errorf("C1: the result of width %d shares memory with the argument", width)
		}
	}
	empty := room()
	scribble(octet.Put(empty, 8, wide))
	if !untouched(empty) {
		t.Errorf("C1: the result shares the spare memory of an empty argument")
	}
}

func TestPutResultsAreIndependent(t *testing.T) {
	for width := -1; width <= 9; width++ {
		b := room(4, 5, 6)
		first := octet.Put(b, width, wide)
		kept := slices.Clone(first)
		second := octet.Put(b, width, 0)
		scribble(second)
		_ = append(second, 77)
		if !slices.Equal(first, kept) {
			t.Errorf("C1: two results of width %d share memory: %v", width, first)
		}
		chained := octet.Put(first, 1, 1)
		scribble(chained)
		if !slices.Equal(first, kept) {
			t.Errorf("C1: a result built on one of width %d shares its memory", width)
		}
		b[0] = 99
		if !slices.Equal(first, kept) {
			t.Errorf("C1: the result of width %d changes with the argument", width)
		}
	}
}

// plainGet is what C2 says of places and widths that stand, by a sum of powers.
func plainGet(b []byte, at, width int) uint64 {
	var n, weight uint64 = 0, 1
	for i := at + width - 1; i >= at; i-- {
		n += uint64(b[i]) * weight
		weight *= 256
	}
	return n
}

func TestGetEachPlace(t *testing.T) {
	whole := []byte{255, 1, 0, 128, 7, 254, 3, 200, 0, 9}
	for size := range len(whole) + 1 {
		b := whole[:size:size]
		for at := range size + 1 {
			for width := 0; width <= 8; width++ {
				is := at+width <= size
				var want uint64
				if is {
					want = plainGet(b, at, width)
				}
				if n, ok := octet.Get(b, at, width); n != want || ok != is {
					t.Errorf("C2: Get(%v, %d, %d) is %d %t, not %d %t", b, at, width, n, ok, want, is)
				}
			}
		}
	}
}

func TestGetExamples(t *testing.T) {
	for _, c := range []struct {
		b         []byte
		at, width int
		n         uint64
		is        bool
	}{
		{[]byte{9, 1, 2}, 1, 2, 258, true},
		{[]byte{9, 1, 2}, 2, 2, 0, false},
		{[]byte{9, 1, 2}, 2, 1, 2, true},
		{[]byte{9, 1, 2}, 3, 1, 0, false},
		{[]byte{9}, 0, 0, 0, true},
		{[]byte{9}, 1, 0, 0, true},
		{[]byte{9}, 2, 0, 0, false},
		{nil, 0, 0, 0, true},
		{nil, 1, 0, 0, false},
		{nil, 0, 1, 0, false},
		{[]byte{}, 0, 8, 0, false},
		{[]byte{1, 2, 3, 4, 5, 6, 7, 8}, 0, 8, wide, true},
		{[]byte{1, 2, 3, 4, 5, 6, 7}, 0, 8, 0, false},
		{[]byte{255, 255, 255, 255, 255, 255, 255, 255}, 0, 8, math.MaxUint64, true},
	} {
		if n, is := octet.Get(c.b, c.at, c.width); n != c.n || is != c.is {
			t.Errorf("C2: Get(%v, %d, %d) is %d %t, not %d %t", c.b, c.at, c.width, n, is, c.n, c.is)
		}
	}
}

func TestGetRefuses(t *testing.T) {
	b := make([]byte, 100)
	for i := range b {
		b[i] = byte(i + 1)
	}
	for _, width := range oddWidths {
		for _, at := range []int{0, 1, 50, 99, 100} {
			if n, is := octet.Get(b, at, width); n != 0 || is {
				t.Errorf("C2: Get(b, %d, %d) is %d %t", at, width, n, is)
			}
		}
	}
	places := []int{math.MinInt, math.MinInt + 8, -100, -8, -1, 101, 102, 108, 1000, math.MaxInt - 8, math.MaxInt - 1, math.MaxInt}
	for _, at := range places {
		for width := -1; width <= 9; width++ {
			if n, is := octet.Get(b, at, width); n != 0 || is {
				t.Errorf("C2: Get(b, %d, %d) is %d %t", at, width, n, is)
			}
		}
	}
	for _, at := range places {
		for _, width := range oddWidths {
			if n, is := octet.Get(b, at, width); n != 0 || is {
				t.Errorf("C2: Get(b, %d, %d) is %d %t", at, width, n, is)
			}
		}
	}
}

func TestGetKeepsToTheLength(t *testing.T) {
	b := room(1, 2, 3)
	for at := range 6 {
		for width := range 9 {
			n, is := octet.Get(b, at, width)
			if want := at+width <= 3; is != want || !is && n != 0 {
				t.Errorf("C2: Get of three bytes at %d, width %d, is %d %t", at, width, n, is)
			}
		}
	}
	if !untouched(b, 1, 2, 3) {
		t.Errorf("C2: Get changed its argument: %v", b[:cap(b)])
	}
}

// expectShort holds a reader against what C3 says of a short one.
func expectShort(t *testing.T, how string, r *octet.Reader) {
	t.Helper()
	ask := func() {
		if !r.Short() || r.Left() != 0 {
			t.Fatalf("C3: %s: short is %t, %d left", how, r.Short(), r.Left())
		}
	}
	ask()
	for width := -1; width <= 9; width++ {
		if n := r.Num(width); n != 0 {
			t.Fatalf("C3: %s: Num(%d) of a short reader is %d", how, width, n)
		}
		ask()
	}
	for n := -1; n <= 9; n++ {
		if b := r.Bytes(n); len(b) != 0 {
			t.Fatalf("C3: %s: Bytes(%d) of a short reader is %v", how, n, b)
		}
		ask()
	}
	if n := r.Num(0); n != 0 || len(r.Bytes(0)) != 0 {
		t.Fatalf("C3: %s: Num(0) or Bytes(0) of a short reader is something", how)
	}
	ask()
}

// expectLeft holds a reader that is not short against how much is left.
func expectLeft(t *testing.T, how string, r *octet.Reader, left int) {
	t.Helper()
	if r.Short() || r.Left() != left {
		t.Fatalf("C3: %s: short is %t, %d left, not %d", how, r.Short(), r.Left(), left)
	}
}

func TestReaderInOrder(t *testing.T) {
	r := octet.New([]byte{1, 2, 3, 4, 5, 6, 7, 8, 9, 10})
	expectLeft(t, "a new one", r, 10)
	if n := r.Num(2); n != 258 {
		t.Errorf("C3: Num(2) is %d", n)
	}
	expectLeft(t, "behind Num(2)", r, 8)
	if b := r.Bytes(3); !slices.Equal(b, []byte{3, 4, 5}) {
		t.Errorf("C3: Bytes(3) is %v", b)
	}
	expectLeft(t, "behind Bytes(3)", r, 5)
	if n := r.Num(0); n != 0 {
		t.Errorf("C3: Num(0) is %d", n)
	}
	if b := r.Bytes(0); len(b) != 0 {
		t.Errorf("C3: Bytes(0) is %v", b)
	}
	expectLeft(t, "behind nothing", r, 5)
	if n := r.Num(1); n != 6 {
		t.Errorf("C3: Num(1) is %d", n)
	}
	if b := r.Bytes(4); !slices.Equal(b, []byte{7, 8, 9, 10}) {
		t.Errorf("C3: Bytes(4) is %v", b)
	}
	expectLeft(t, "at the end", r, 0)
	if n := r.Num(0); n != 0 {
		t.Errorf("C3: Num(0) at the end is %d", n)
	}
	if b := r.Bytes(0); len(b) != 0 {
		t.Errorf("C3: Bytes(0) at the end is %v", b)
	}
	expectLeft(t, "nothing at the end", r, 0)
}

func TestReaderOfNothing(t *testing.T) {
	for _, b := range [][]byte{nil, {}} {
		r := octet.New(b)
		expectLeft(t, "no bytes", r, 0)
		if r.Num(0) != 0 || len(r.Bytes(0)) != 0 {
			t.Errorf("C3: Num(0) or Bytes(0) of no bytes is something")
		}
		expectLeft(t, "no bytes taken from no bytes", r, 0)
		if n := r.Num(1); n != 0 {
			t.Errorf("C3: Num(1) of no bytes is %d", n)
		}
		expectShort(t, "Num(1) of no bytes", r)
		r = octet.New(b)
		if got := r.Bytes(1); len(got) != 0 {
			t.Errorf("C3: Bytes(1) of no bytes is %v", got)
		}
		expectShort(t, "Bytes(1) of no bytes", r)
	}
}

func TestReaderShortByNum(t *testing.T) {
	many := make([]byte, 40)
	for i := range many {
		many[i] = byte(i + 1)
	}
	for _, width := range oddWidths {
		r := octet.New(many)
		r.Num(3)
		if n := r.Num(width); n != 0 {
			t.Errorf("C3: Num(%d) is %d", width, n)
		}
		expectShort(t, "a width that is none", r)
	}
	for width := 1; width <= 8; width++ {
		for left := range width {
			r := octet.New(many[:2+left])
			r.Num(2)
			if n := r.Num(width); n != 0 {
				t.Errorf("C3: Num(%d) of %d bytes is %d", width, left, n)
			}
			expectShort(t, "Num of more bytes than are left", r)
		}
		r := octet.New(many[:2+width])
		r.Num(2)
		r.Num(width)
		expectLeft(t, "Num of just what is left", r, 0)
	}
}

func TestReaderShortByBytes(t *testing.T) {
	for _, n := range []int{math.MinInt, math.MinInt + 1, -8, -1, 5, 6, 9, 1 << 32, math.MaxInt - 1, math.MaxInt} {
		r := octet.New(room(1, 2, 3, 4, 5, 6))
		r.Num(2)
		if b := r.Bytes(n); len(b) != 0 {
			t.Errorf("C3: Bytes(%d) of four is %v", n, b)
		}
		expectShort(t, "Bytes of a wrong number", r)
	}
	r := octet.New([]byte{1, 2, 3, 4})
	if b := r.Bytes(4); !slices.Equal(b, []byte{1, 2, 3, 4}) {
		t.Errorf("C3: Bytes of all is %v", b)
	}
	expectLeft(t, "Bytes of just what is left", r, 0)
	if b := r.Bytes(-1); len(b) != 0 {
		t.Errorf("C3: Bytes(-1) at the end is %v", b)
	}
	expectShort(t, "Bytes(-1) at the end", r)
}

func TestReaderReadsWhatWas(t *testing.T) {
	b := room(1, 2, 3, 4, 5)
	r := octet.New(b)
	scribble(b)
	if n := r.Num(2); n != 258 {
		t.Errorf("C3: Num(2) is %d: it reads what was written later", n)
	}
	scribble(b)
	if got := r.Bytes(3); !slices.Equal(got, []byte{3, 4, 5}) {
		t.Errorf("C3: Bytes(3) is %v: it reads what was written later", got)
	}
	expectLeft(t, "the end of what was", r, 0)
	r.Bytes(1)
	expectShort(t, "the spare bytes of the argument", r)
}

func TestReaderLeavesItsArgument(t *testing.T) {
	b := room(1, 2, 3, 4, 5)
	r := octet.New(b)
	r.Num(2)
	scribble(r.Bytes(3))
	r.Num(1)
	r.Bytes(-1)
	if !untouched(b, 1, 2, 3, 4, 5) {
		t.Errorf("C3: a reader changed its argument: %v", b[:cap(b)])
	}
}

func TestReaderResultsAreIndependent(t *testing.T) {
	r := octet.New([]byte{1, 2, 3, 4, 5, 6, 7})
	first := r.Bytes(2)
	none := r.Bytes(0)
	scribble(none)
	_ = append(none, 77)
	second := r.Bytes(2)
	scribble(first)
	_ = append(first, 77, 77, 77)
	if !slices.Equal(second, []byte{3, 4}) {
		t.Errorf("C3: two results share memory: %v", second)
	}
	scribble(second)
	_ = append(second, 77, 77, 77)
	if n := r.Num(3); n != 5<<16|6<<8|7 {
		t.Errorf("C3: a result shares memory with what is left: %d", n)
	}
}

func TestReadersAreIndependent(t *testing.T) {
	b := []byte{1, 2, 3, 4, 5, 6}
	first, second, third := octet.New(b), octet.New(b), octet.New(b[2:])
	if n := first.Num(4); n != 0x01020304 {
		t.Errorf("C3: Num(4) is %d", n)
	}
	expectLeft(t, "another reader read", second, 6)
	first.Num(4)
	expectShort(t, "the one that read too far", first)
	expectLeft(t, "another reader is short", second, 6)
	expectLeft(t, "another reader is short", third, 4)
	scribble(third.Bytes(2))
	if n := second.Num(6); n != 0x010203040506 {
		t.Errorf("C3: Num(6) is %d", n)
	}
	if n := third.Num(2); n != 0x0506 {
		t.Errorf("C3: Num(2) is %d", n)
	}
	expectLeft(t, "the second", second, 0)
	expectLeft(t, "the third", third, 0)
}

// low is the number in the least significant bytes of another one.
func low(n uint64, width int) uint64 {
	if width == 0 {
		return 0
	}
	return n << (64 - 8*width) >> (64 - 8*width)
}

func TestWhatIsPutIsRead(t *testing.T) {
	numbers := []uint64{0, 1, 127, 128, 255, 256, 65535, 65536, wide, 1 << 63, math.MaxUint64, 0xFEDCBA9876543210}
	for _, n := range numbers {
		for first := range 9 {
			for second := range 9 {
				b := octet.Put(octet.Put(octet.Put(nil, first, n), second, ^n), first, n+1)
				r := octet.New(b)
				x, y, z := r.Num(first), r.Num(second), r.Num(first)
				if x != low(n, first) || y != low(^n, second) || z != low(n+1, first) {
					t.Errorf("C4: %d with the widths %d, %d, %d is %d, %d, %d", n, first, second, first, x, y, z)
				}
				if r.Left() != 0 || r.Short() {
					t.Errorf("C4: %d left of widths %d, %d, %d; short is %t", r.Left(), first, second, first, r.Short())
				}
			}
		}
	}
}

func TestLongRowsOfNumbers(t *testing.T) {
	state := uint64(1)
	next := func() uint64 {
		state = state*6364136223846793005 + 1442695040888963407
		return state ^ state>>29
	}
	for range 50 {
		var b []byte
		var widths []int
		var numbers []uint64
		for range 40 {
			width, n := int(next()%9), next()
			widths, numbers = append(widths, width), append(numbers, n)
			b = octet.Put(b, width, n)
		}
		r := octet.New(b)
		left := len(b)
		for i, width := range widths {
			at := len(b) - left
			want := low(numbers[i], width)
			if n, is := octet.Get(b, at, width); n != want || !is {
				t.Fatalf("C2: Get at %d of width %d is %d %t, not %d", at, width, n, is, want)
			}
			if n := r.Num(width); n != want {
				t.Fatalf("C4: number %d of width %d is %d, not %d", i, width, n, want)
			}
			left -= width
			expectLeft(t, "within a long row", r, left)
		}
		if left != 0 {
			t.Fatalf("C4: %d bytes are left", left)
		}
		r.Num(1)
		expectShort(t, "behind a long row", r)
	}
}
