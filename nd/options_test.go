package nd_test

import (
	"slices"
	"strings"
	"testing"
	"unsafe"

	"crossway/api"
	"crossway/nd"
)

// option is the bytes of an option with some Data, which fills its last unit.
func option(kind int, data string) string {
	return string([]byte{byte(kind), byte((len(data) + 2) / 8)}) + data
}

// zeros is so many bytes 0.
func zeros(n int) string { return strings.Repeat("\x00", n) }

// laid is the bytes of some options.
func laid(l []api.Option) string {
	var b strings.Builder
	for _, o := range l {
		b.WriteString(option(o.Kind, o.Data))
	}
	return b.String()
}

// plainOptions reads options in another way: by one piece of the bytes behind another.
func plainOptions(s string) ([]api.Option, api.Errno) {
	if s == "" {
		return nil, api.OK
	}
	if len(s) == 1 {
		return nil, api.ErrNdShort
	}
	if s[1] == 0 {
		return nil, api.ErrNdForm
	}
	size := 8 * int(s[1])
	if size > len(s) {
		return nil, api.ErrNdShort
	}
	behind, e := plainOptions(s[size:])
	if e != api.OK {
		return nil, e
	}
	return append([]api.Option{{Kind: int(s[0]), Data: s[2:size]}}, behind...), api.OK
}

func expectOptions(t *testing.T, s string, want []api.Option) {
	t.Helper()
	if l, e := nd.Options(s); !slices.Equal(l, want) || e != api.OK {
		t.Errorf("I2: Options of %d bytes %q is %+v %d, not %+v", len(s), start(s), l, e, want)
	}
}

func expectNoOptions(t *testing.T, s string, want api.Errno) {
	t.Helper()
	if l, e := nd.Options(s); len(l) != 0 || e != want {
		t.Errorf("I2: Options of %d bytes %q is %+v %d, not %d", len(s), start(s), l, e, want)
	}
}

// expectAsPlainOptions expects what the other way of reading answers.
func expectAsPlainOptions(t *testing.T, s string) api.Errno {
	t.Helper()
	l, e := plainOptions(s)
	if e == api.OK {
		expectOptions(t, s, l)
	} else {
		expectNoOptions(t, s, e)
	}
	return e
}

func TestOptionsExamples(t *testing.T) {
	one := api.Option{Kind: 1, Data: "\x00\x00\x00\x00\x00\x05"}
	expectOptions(t, "", nil)
	expectOptions(t, "\x01\x01\x00\x00\x00\x00\x00\x05", []api.Option{one})
	expectOptions(t, "\x01\x01\x00\x00\x00\x00\x00\x05\x00\x02abcdefghijklmn\x01\x01\x00\x00\x00\x00\x00\x05",
		[]api.Option{one, {Kind: 0, Data: "abcdefghijklmn"}, one})
	expectNoOptions(t, "\x01\x01\x00\x00\x00\x00\x00\x05\x09\x00", api.ErrNdForm)
	expectNoOptions(t, "\x01\x02\x00\x00\x00\x00\x00\x00", api.ErrNdShort)
	expectNoOptions(t, "\x01", api.ErrNdShort)
	expectNoOptions(t, "\x01\x01\x00\x00\x00\x00\x00\x05\x09", api.ErrNdShort)
	expectNoOptions(t, "\x01\x00", api.ErrNdForm)
	expectNoOptions(t, "\x01\x01", api.ErrNdShort)
}

// TestOptionsEachLength has an option of each length that ends where the bytes end,
// or some bytes before that, or behind it.
func TestOptionsEachLength(t *testing.T) {
	s := source(2)
	for _, ahead := range [][]api.Option{nil, {{Kind: 7, Data: "abcdef"}}, {{Kind: 1, Data: zeros(14)}, {Kind: 2, Data: zeros(6)}}} {
		first := laid(ahead)
		for units := 1; units < 256; units++ {
			data := s.text(8*units - 2)
			whole := first + option(5, data)
			want := append(slices.Clone(ahead), api.Option{Kind: 5, Data: data})
			expectOptions(t, whole, want)
			for _, less := range []int{1, 2, 5, 6, 8, 9, 8*units - 8, 8*units - 3, 8*units - 2} {
				if less > 0 && less <= 8*units-2 {
					expectNoOptions(t, whole[:len(whole)-less], api.ErrNdShort)
				}
			}
			expectNoOptions(t, whole+"\x05", api.ErrNdShort)
			expectNoOptions(t, whole+"\x00", api.ErrNdShort)
			expectNoOptions(t, whole+"\x05\x01abcde", api.ErrNdShort)
			expectNoOptions(t, whole+"\x05\x00", api.ErrNdForm)
			expectOptions(t, whole+"\x06\x01fedcba", append(want, api.Option{Kind: 6, Data: "fedcba"}))
		}
	}
}

func TestOptionsEachKind(t *testing.T) {
	for n := range 256 {
		expectOptions(t, option(n, "abcdef"), []api.Option{{Kind: n, Data: "abcdef"}})
		expectNoOptions(t, string([]byte{byte(n)}), api.ErrNdShort)
		expectNoOptions(t, string([]byte{byte(n), 0}), api.ErrNdForm)
		expectNoOptions(t, string([]byte{byte(n), 0})+zeros(6), api.ErrNdForm)
		expectNoOptions(t, string([]byte{byte(n), 1})+zeros(5), api.ErrNdShort)
	}
}

// TestOptionsEachByte has each second byte ahead of so many bytes, and each byte as
// Data.
func TestOptionsEachByte(t *testing.T) {
	for n := range 256 {
		for _, size := range []int{2, 3, 7, 8, 9, 15, 16, 17, 1016, 1024, 2032, 2039, 2040, 2041, 2048, 2056} {
			expectAsPlainOptions(t, string([]byte{9, byte(n)})+zeros(size-2))
			expectAsPlainOptions(t, string([]byte{9, byte(n)})+strings.Repeat("\x01", size-2))
			expectAsPlainOptions(t, string([]byte{9, byte(n)})+strings.Repeat("\xff", size-2))
		}
		data := strings.Repeat(string([]byte{byte(n)}), 6)
		expectOptions(t, option(9, data)+option(9, data), []api.Option{{Kind: 9, Data: data}, {Kind: 9, Data: data}})
	}
	for _, data := range []string{"\x80\xc3\x28\xff\xfe\x00", "\u65e5\u672c", "\U0001f600\u00e4"} {
		expectOptions(t, option(3, data), []api.Option{{Kind: 3, Data: data}})
	}
}

// TestOptionsManyOptions has as many as there may be, of one Kind and of many.
func TestOptionsManyOptions(t *testing.T) {
	for _, count := range []int{1, 2, 3, 100, 8000} {
		var alike, unlike []api.Option
		for n := range count {
			alike = append(alike, api.Option{Kind: 1, Data: "abcdef"})
			unlike = append(unlike, api.Option{Kind: n % 256, Data: big(uint64(n), 8*(1+n%3)-2)})
		}
		for _, l := range [][]api.Option{alike, unlike} {
			expectOptions(t, laid(l), l)
			expectNoOptions(t, laid(l)+"\x01", api.ErrNdShort)
			expectNoOptions(t, laid(l)+"\x01\x00", api.ErrNdForm)
			expectNoOptions(t, laid(l)+"\x01\x01", api.ErrNdShort)
		}
	}
}

// TestOptionsFirstFault has several faults: the first one from the left counts.
func TestOptionsFirstFault(t *testing.T) {
	fine := option(1, "abcdef")
	for _, ahead := range []string{"", fine, fine + fine + option(200, zeros(30))} {
		expectNoOptions(t, ahead+"\x09\x00"+fine+"\x09", api.ErrNdForm)
		expectNoOptions(t, ahead+"\x09\x00\x09\xff", api.ErrNdForm)
		expectNoOptions(t, ahead+"\x00\x00\x00", api.ErrNdForm)
		expectNoOptions(t, ahead+"\x09\x03\x09\x00"+zeros(12), api.ErrNdShort)
		expectNoOptions(t, ahead+"\x09\xff\x00\x00"+fine+"\x09\x00", api.ErrNdShort)
		expectNoOptions(t, ahead+"\x09\x02\x00\x00\x00\x00\x00\x00", api.ErrNdShort)
		expectNoOptions(t, ahead+"\x09\x01\x00\x00\x00\x00\x00\x00\x00", api.ErrNdShort)
	}
	// What looks like a fault within an option's Data is none.
	expectOptions(t, "\x09\x02\x00\x00\x09\x00\x09\xff"+zeros(8), []api.Option{{Kind: 9, Data: "\x00\x00\x09\x00\x09\xff" + zeros(8)}})
}

func TestOptionsAnyBytes(t *testing.T) {
	s := source(3)
	seen := map[api.Errno]int{}
	for range 50000 {
		var l []api.Option
		for range s.below(4) {
			l = append(l, api.Option{Kind: s.below(256), Data: s.text(8*(1+s.below(3)) - 2)})
		}
		b := []byte(laid(l))
		if len(b) > 0 && s.below(3) == 0 {
			b[s.below(len(b))] = byte(s.below(4))
		}
		if s.below(3) == 0 {
			b = b[:s.below(len(b)+1)]
		}
		switch s.below(8) {
		case 0:
			b = append(b, s.text(s.below(12))...)
		case 1:
			b = append(b, 9, 0)
		}
		seen[expectAsPlainOptions(t, string(b))]++
	}
	for _, e := range []api.Errno{api.OK, api.ErrNdForm, api.ErrNdShort} {
		if seen[e] < 1000 {
			t.Errorf("only %d inputs were %d", seen[e], e)
		}
	}
	for range 20000 {
		expectAsPlainOptions(t, s.text(s.below(40)))
	}
}

// hostOf is a text's bytes as a text that shares their memory, which nothing but such
// a trick can make.
func hostOf(b []byte) string { return unsafe.String(&b[0], len(b)) }

// TestOptionsKeepNoBytes writes over the memory of the text that was given: no result
// may change with it.
func TestOptionsKeepNoBytes(t *testing.T) {
	want := []api.Option{{Kind: 1, Data: "abcdef"}, {Kind: 2, Data: "0123456789abcd"}}
	s := laid(want)
	b := []byte(s)
	l, _ := nd.Options(hostOf(b))
	if string(b) != s {
		t.Errorf("R3: the bytes that were given have become %q", b)
	}
	for i := range b {
		b[i] = 'X'
	}
	if !slices.Equal(l, want) {
		t.Errorf("R3: options share their bytes with what Options was given: %+v", l)
	}
}

func TestOptionsAreIndependent(t *testing.T) {
	want := []api.Option{{Kind: 1, Data: "abcdef"}, {Kind: 2, Data: "0123456789abcd"}, {Kind: 3, Data: "fedcba"}}
	x, _ := nd.Options(laid(want))
	y, _ := nd.Options(laid(want))
	for i := range x[:cap(x)] {
		x[:cap(x)][i] = api.Option{Kind: 99, Data: "x"}
	}
	_ = append(x[:1], api.Option{Kind: 98})
	if !slices.Equal(y, want) {
		t.Errorf("R3: options that were written over change other ones: %+v", y)
	}
	expectOptions(t, laid(want), want)
}
