package ip6_test

import (
	"math"
	"slices"
	"strings"
	"testing"

	"crossway/api"
	"crossway/ip6"
)

// kinds are the numbers that extension headers have.
var kinds = []int{0, 43, 60, 44}

// isKind tells whether a number is an extension header's.
func isKind(n int) bool {
	return slices.Contains(kinds, n)
}

// plainSize is the length of the header of a kind with which a text begins; more than
// there is, if it is not whole.
func plainSize(kind int, s string) int {
	switch {
	case len(s) < 8:
		return 8
	case kind == 44:
		return 8
	}
	return 8 * (int(s[1]) + 1)
}

// plainChain is what G3 says of a packet, header by header from the last one backwards:
// the headers ahead of it are handed in.
func plainChain(ahead []api.Ext, next int, data string) ([]api.Ext, int, int, api.Errno) {
	at := 0
	for _, x := range ahead {
		at += x.Len
	}
	if !isKind(next) {
		return ahead, next, at, api.OK
	}
	if next == 0 && len(ahead) > 0 {
		return nil, 0, 0, api.ErrSixChain
	}
	if len(ahead) >= 16 {
		return nil, 0, 0, api.ErrSixChain
	}
	size := plainSize(next, data)
	if len(data) < size {
		return nil, 0, 0, api.ErrSixShort
	}
	return plainChain(append(ahead, api.Ext{Kind: next, At: at, Len: size}), int(data[0]), data[size:])
}

// plainHead is what G4 says of the headers of a packet.
func plainHead(found []api.Ext) int {
	if i := slices.IndexFunc(found, func(x api.Ext) bool { return x.Kind == 44 }); i >= 0 {
		found = found[:i]
	}
	for _, x := range slices.Backward(found) {
		if x.Kind == 0 || x.Kind == 43 {
			return x.At + x.Len
		}
	}
	return 0
}

// header is an extension header of a kind, ahead of a number, of so many units of 8
// bytes, with bytes that are not 0. (One of the kind 44 has one unit, and as its second
// byte one that says nothing.)
func header(kind, follows, units int) string {
	if kind == 44 {
		return string([]byte{byte(follows), byte(units), 1, 2, 3, 4, 5, 6})
	}
	return string([]byte{byte(follows), byte(units - 1)}) + strings.Repeat("\xee", 8*units-2)
}

// headers are those of some kinds, in their order, each of as many units as tell says,
// ahead of a number; and the list of them.
func headers(list []int, follows int, tell func(i int) int) (string, []api.Ext) {
	var b strings.Builder
	var found []api.Ext
	for i, kind := range list {
		behind := follows
		if i+1 < len(list) {
			behind = list[i+1]
		}
		s := header(kind, behind, tell(i))
		found = append(found, api.Ext{Kind: kind, At: b.Len(), Len: len(s)})
		b.WriteString(s)
	}
	return b.String(), found
}

// first is the number of the first of some headers, or of what follows none.
func first(list []int, follows int) int {
	if len(list) > 0 {
		return list[0]
	}
	return follows
}

// ones tells that each header has one unit.
func ones(int) int { return 1 }

func expectChain(t *testing.T, next int, data string, want []api.Ext, follows, at int) {
	t.Helper()
	found, n, place, e := ip6.Chain(next, data)
	if !slices.Equal(found, want) || n != follows || place != at || e != api.OK {
		t.Errorf("G3: Chain(%d, %d bytes %q) is %v %d %d %d, not %v %d %d", next, len(data), start(data), found, n, place, e, want, follows, at)
	}
	expectHead(t, next, data, plainHead(want))
}

func expectChainError(t *testing.T, next int, data string, want api.Errno) {
	t.Helper()
	found, n, place, e := ip6.Chain(next, data)
	if len(found) != 0 || n != 0 || place != 0 || e != want {
		t.Errorf("G3: Chain(%d, %d bytes %q) is %v %d %d %d, not the error %d", next, len(data), start(data), found, n, place, e, want)
	}
	expectHead(t, next, data, 0)
}

func expectHead(t *testing.T, next int, data string, want int) {
	t.Helper()
	if n := ip6.Head(next, data); n != want {
		t.Errorf("G4: Head(%d, %d bytes %q) is %d, not %d", next, len(data), start(data), n, want)
	}
}

func noughts(n int) string { return strings.Repeat("\x00", n) }

func TestChainExamples(t *testing.T) {
	expectChain(t, 0, "\x3c\x00"+noughts(6)+"\x06\x01"+noughts(14)+"\x07", []api.Ext{{Kind: 0, At: 0, Len: 8}, {Kind: 60, At: 8, Len: 16}}, 6, 24)
	expectChainError(t, 60, "\x00\x00"+noughts(6), api.ErrSixChain)
	expectChainError(t, 43, "\x06\x01"+noughts(6), api.ErrSixShort)
	expectChain(t, 6, "", nil, 6, 0)
	expectHead(t, 0, "\x3c\x00"+noughts(6)+"\x06\x00"+noughts(6), 8)
	expectHead(t, 60, "\x2b\x00"+noughts(6)+"\x06\x00"+noughts(6), 16)
	expectHead(t, 60, "\x06\x00"+noughts(6), 0)
}

// TestChainNoHeader has each number that is no header's, as Next and behind a header.
func TestChainNoHeader(t *testing.T) {
	numbers := []int{
		-1, -43, -44, -60, -212, -213, -256, -300, 256, 256 + 43, 256 + 44, 256 + 60, 257, 512, 1<<32 + 43,
		math.MinInt, math.MinInt + 43, math.MaxInt, math.MaxInt - 1,
	}
	for n := range 256 {
		if !isKind(n) {
			numbers = append(numbers, n)
		}
	}
	for _, n := range numbers {
		for _, data := range []string{"", "\x00", "\x2b\x00" + noughts(6), noughts(8), strings.Repeat("\xff", 300)} {
			expectChain(t, n, data, nil, n, 0)
		}
		if n < 0 || n > 255 {
			continue
		}
		for _, kind := range kinds {
			for _, behind := range []string{"", "\x00", "\x2b\x00" + noughts(6), strings.Repeat("\xff", 300)} {
				expectChain(t, kind, header(kind, n, 1)+behind, []api.Ext{{Kind: kind, At: 0, Len: 8}}, n, 8)
			}
		}
	}
}

// TestChainEachKind has each kind ahead of each number.
func TestChainEachKind(t *testing.T) {
	for _, kind := range kinds {
		for follows := range 256 {
			s := header(kind, follows, 1)
			one := api.Ext{Kind: kind, At: 0, Len: 8}
			switch {
			case follows == 0:
				expectChainError(t, kind, s, api.ErrSixChain)
				expectChainError(t, kind, s+noughts(100), api.ErrSixChain)
			case isKind(follows):
				expectChainError(t, kind, s, api.ErrSixShort)
				expectChain(t, kind, s+header(follows, 59, 1), []api.Ext{one, {Kind: follows, At: 8, Len: 8}}, 59, 16)
			default:
				expectChain(t, kind, s, []api.Ext{one}, follows, 8)
			}
		}
	}
}

// TestChainFewBytes has fewer bytes than the least header has, as the first header and
// behind another one.
func TestChainFewBytes(t *testing.T) {
	for _, kind := range kinds {
		whole := header(kind, 6, 1)
		for n := range 8 {
			expectChainError(t, kind, whole[:n], api.ErrSixShort)
			for _, ahead := range kinds {
				if kind != 0 {
					expectChainError(t, ahead, header(ahead, kind, 2)+whole[:n], api.ErrSixShort)
				}
			}
		}
		expectChain(t, kind, whole, []api.Ext{{Kind: kind, At: 0, Len: 8}}, 6, 8)
		expectChain(t, kind, whole+"x", []api.Ext{{Kind: kind, At: 0, Len: 8}}, 6, 8)
		// Their second byte alone says that they are longer than what is left.
		for n := 2; n < 8; n++ {
			expectChainError(t, kind, "\x06\xff\xff\xff\xff\xff\xff\xff"[:n], api.ErrSixShort)
		}
	}
}

// TestChainEachLength has each length of a header: as many bytes as it needs, one
// fewer, and more; of the kind 44 it is always 8.
func TestChainEachLength(t *testing.T) {
	for _, kind := range kinds {
		for units := 1; units <= 256; units++ {
			s := header(kind, 17, units)
			if kind == 44 {
				s = string([]byte{17, byte(units - 1)}) + "\xff\xff\xff\xff\xff\xff"
			}
			want := []api.Ext{{Kind: kind, At: 0, Len: len(s)}}
			expectChain(t, kind, s, want, 17, len(s))
			expectChain(t, kind, s+"\x00", want, 17, len(s))
			expectChain(t, kind, s+strings.Repeat("\x3c", 3000), want, 17, len(s))
			expectChainError(t, kind, s[:len(s)-1], api.ErrSixShort)
			if units > 1 && kind != 44 {
				expectChainError(t, kind, s[:len(s)-8], api.ErrSixShort)
				expectChainError(t, kind, s[:8], api.ErrSixShort)
			}
			if kind != 0 {
				twice := []api.Ext{{Kind: 60, At: 0, Len: 16}, {Kind: kind, At: 16, Len: len(s)}}
				expectChain(t, 60, header(60, kind, 2)+s, twice, 17, 16+len(s))
				expectChainError(t, 60, header(60, kind, 2)+s[:len(s)-1], api.ErrSixShort)
			}
		}
	}
}

// TestChainHowMany has up to twenty headers of each kind: sixteen are the most.
func TestChainHowMany(t *testing.T) {
	for _, kind := range []int{43, 60, 44} {
		for n := range 21 {
			list := slices.Repeat([]int{kind}, n)
			for _, beginning := range []int{kind, 0, 60} {
				if n > 0 {
					list[0] = beginning
				}
				s, want := headers(list, 6, func(i int) int { return 1 + i%3 })
				for _, behind := range []string{"", "\x00", noughts(200)} {
					if n > 16 {
						expectChainError(t, list[0], s+behind, api.ErrSixChain)
					} else {
						expectChain(t, first(list, 6), s+behind, want, 6, len(s))
					}
				}
				if n > 0 && n <= 16 {
					expectChainError(t, list[0], s[:len(s)-1], api.ErrSixShort)
				}
			}
		}
	}
	for _, n := range []int{17, 1000, 100000} {
		s, _ := headers(slices.Repeat([]int{60}, n), 60, ones)
		expectChainError(t, 60, s, api.ErrSixChain)
	}
}

// TestChainFaults has several faults at once: which error comes first.
func TestChainFaults(t *testing.T) {
	full, want := headers(slices.Repeat([]int{60}, 16), 43, ones)
	fifteen := full[:15*8]
	last := func(follows int) string { return fifteen + header(60, follows, 1) }
	expectChain(t, 60, last(17), want, 17, 128)
	for _, c := range []struct {
		what string
		next int
		data string
		want api.Errno
	}{
		{"a seventeenth header, whole", 60, full + header(43, 6, 1), api.ErrSixChain},
		{"a seventeenth header, and no bytes", 60, full, api.ErrSixChain},
		{"a seventeenth header, and 7 bytes", 60, full + header(43, 6, 1)[:7], api.ErrSixChain},
		{"a seventeenth header that is too long", 60, full + header(43, 6, 2)[:8], api.ErrSixChain},
		{"a seventeenth header with the number 44, and no bytes", 60, last(44), api.ErrSixChain},
		{"a seventeenth header with the number 0, whole", 60, last(0) + header(0, 6, 1), api.ErrSixChain},
		{"a seventeenth header with the number 0, and no bytes", 60, last(0), api.ErrSixChain},
		{"a sixteenth header that is cut", 60, fifteen + "\x06", api.ErrSixShort},
		{"a sixteenth header with the number 0", 60, fifteen[:14*8] + header(60, 0, 1), api.ErrSixChain},
		{"a 0 that is not first, and no bytes", 43, header(43, 0, 1), api.ErrSixChain},
		{"a 0 that is not first, and 7 bytes", 44, header(44, 0, 1) + noughts(7), api.ErrSixChain},
		{"a 0 that is not first, and is too long", 0, header(0, 0, 1) + header(0, 6, 9)[:16], api.ErrSixChain},
		{"a 0 behind a header that is cut", 43, header(43, 0, 2)[:15], api.ErrSixShort},
		{"a 0 that is first, and 7 bytes", 0, noughts(7), api.ErrSixShort},
		{"a 0 that is first, and no bytes", 0, "", api.ErrSixShort},
		{"a cut header ahead of too many", 60, header(60, 60, 200)[:8] + full, api.ErrSixShort},
	} {
		if found, n, at, e := ip6.Chain(c.next, c.data); len(found) != 0 || n != 0 || at != 0 || e != c.want {
			t.Errorf("G3: with the faults of %s Chain is %v %d %d %d, not the error %d", c.what, found, n, at, e, c.want)
		}
		expectHead(t, c.next, c.data, 0)
	}
}

// orders are all lists of up to n kinds.
func orders(n int) [][]int {
	found := [][]int{nil}
	longest := found
	for range n {
		var longer [][]int
		for _, list := range longest {
			for _, kind := range kinds {
				longer = append(longer, append(slices.Clone(list), kind))
			}
		}
		found = append(found, longer...)
		longest = longer
	}
	return found
}

// TestChainEachOrder has each order of up to five headers, of one length and of several,
// with and without bytes behind them, and cut.
func TestChainEachOrder(t *testing.T) {
	for _, list := range orders(5) {
		bad := len(list) > 1 && slices.Contains(list[1:], 0)
		for _, tell := range []func(int) int{ones, func(i int) int { return 1 + (i*3+2)%5 }} {
			s, want := headers(list, 58, tell)
			for _, behind := range []string{"", "behind", noughts(64)} {
				if bad {
					expectChainError(t, list[0], s+behind, api.ErrSixChain)
				} else {
					expectChain(t, first(list, 58), s+behind, want, 58, len(s))
				}
			}
			if !bad && len(list) > 0 {
				expectChainError(t, list[0], s[:len(s)-1], api.ErrSixShort)
			}
		}
	}
}

// TestHeadOrders has the beginnings that stand in each fragment, counted by hand: each
// header has 8 bytes.
func TestHeadOrders(t *testing.T) {
	for _, c := range []struct {
		list []int
		want int
	}{
		{nil, 0}, {[]int{0}, 8}, {[]int{43}, 8}, {[]int{60}, 0}, {[]int{44}, 0},
		{[]int{0, 43}, 16}, {[]int{0, 60}, 8}, {[]int{0, 44}, 8},
		{[]int{43, 43}, 16}, {[]int{43, 60}, 8}, {[]int{43, 44}, 8},
		{[]int{60, 43}, 16}, {[]int{60, 60}, 0}, {[]int{60, 44}, 0},
		{[]int{44, 43}, 0}, {[]int{44, 60}, 0}, {[]int{44, 44}, 0},
		{[]int{0, 60, 43}, 24}, {[]int{0, 60, 43, 60}, 24}, {[]int{0, 60, 44, 43}, 8}, {[]int{0, 60, 60}, 8},
		{[]int{60, 60, 43}, 24}, {[]int{60, 43, 60}, 16}, {[]int{60, 43, 60, 43}, 32}, {[]int{60, 43, 60, 60, 44}, 16},
		{[]int{60, 44, 43}, 0}, {[]int{44, 60, 43}, 0}, {[]int{43, 44, 43}, 8}, {[]int{43, 44, 60, 43}, 8},
		{[]int{43, 60, 44, 43}, 8}, {[]int{43, 44, 44, 43}, 8}, {[]int{60, 43, 44, 43}, 16},
		{[]int{0, 43, 60, 43, 60, 44, 60, 43}, 32},
		// With an error anywhere, even behind a 44, it is 0.
		{[]int{43, 0}, 0}, {[]int{0, 0}, 0}, {[]int{0, 43, 44, 0}, 0}, {[]int{44, 0}, 0},
		{slices.Repeat([]int{43}, 16), 128}, {slices.Repeat([]int{43}, 17), 0},
		{append(slices.Repeat([]int{60}, 15), 43), 128}, {append(slices.Repeat([]int{60}, 16), 43), 0},
		{append([]int{0, 44}, slices.Repeat([]int{60}, 14)...), 8}, {append([]int{0, 44}, slices.Repeat([]int{60}, 15)...), 0},
	} {
		for _, follows := range []int{1, 6, 17, 58, 59, 255} {
			s, _ := headers(c.list, follows, ones)
			expectHead(t, first(c.list, follows), s, c.want)
			expectHead(t, first(c.list, follows), s+"what follows", c.want)
			for n := range len(s) {
				expectHead(t, first(c.list, follows), s[:n], 0)
			}
		}
	}
}

func TestHeadLengths(t *testing.T) {
	for units := 1; units <= 256; units++ {
		tell := func(int) int { return units }
		for _, c := range []struct {
			list []int
			want int
		}{{[]int{0}, 1}, {[]int{43}, 1}, {[]int{60, 43}, 2}, {[]int{0, 60, 43, 60}, 3}, {[]int{60, 43, 44, 43}, 2}, {[]int{60}, 0}} {
			s, _ := headers(c.list, 6, tell)
			expectHead(t, c.list[0], s, c.want*8*units)
			expectHead(t, c.list[0], s[:len(s)-1], 0)
		}
		// One of the kind 44 has 8 bytes, whatever its second byte is.
		expectHead(t, 43, header(43, 44, units)+header(44, 6, units), 8*units)
	}
	expectHead(t, 0, "", 0)
	expectHead(t, 43, noughts(7), 0)
	expectHead(t, -1, noughts(8), 0)
	expectHead(t, 256, noughts(8), 0)
	expectHead(t, 256+43, "\x06"+noughts(7), 0)
	expectHead(t, math.MinInt, noughts(8), 0)
	expectHead(t, math.MaxInt, noughts(8), 0)
}

// TestChainAnyBytes gives the calls whatever may be given to them.
func TestChainAnyBytes(t *testing.T) {
	s := source(5)
	some := func() int {
		switch s.below(9) {
		case 0:
			return s.below(256)
		case 1:
			return s.below(600) - 300
		}
		return []int{43, 60, 44, 43, 60, 0, 6}[s.below(7)]
	}
	for i := range 100000 {
		next, data := some(), s.text(s.below(20))
		if i%4 > 0 {
			var list []int
			for range s.below(20) {
				list = append(list, []int{43, 60, 60, 44}[s.below(4)])
			}
			if len(list) > 0 && s.below(3) == 0 {
				list[0] = 0
			}
			follows := some()
			data, _ = headers(list, follows, func(int) int { return 1 + s.below(3)*s.below(3) })
			next = first(list, follows)
			data += s.text(s.below(20))
			data = data[:len(data)-min(len(data), s.below(2)*s.below(30))]
		}
		want, follows, at, e := plainChain(nil, next, data)
		if e != api.OK {
			expectChainError(t, next, data, e)
			continue
		}
		expectChain(t, next, data, want, follows, at)
		// G6: the headers follow each other, from 0 to what follows them.
		found, _, place, _ := ip6.Chain(next, data)
		end := 0
		for _, x := range found {
			if x.At != end {
				t.Errorf("G6: Chain(%d, %q) has a gap ahead of %v", next, data, x)
			}
			end += x.Len
		}
		if end != place {
			t.Errorf("G6: the headers of Chain(%d, %q) end at %d, and what follows is at %d", next, data, end, place)
		}
	}
}

// TestChainOfPackets has the headers of packets that were laid and taken.
func TestChainOfPackets(t *testing.T) {
	for _, list := range orders(4) {
		if len(list) > 1 && slices.Contains(list[1:], 0) {
			continue
		}
		s, want := headers(list, 17, ones)
		p := full()
		p.Next, p.Data = first(list, 17), s+"what follows"
		laid, _ := ip6.Lay(p)
		took, e := ip6.Take(laid + "behind")
		if e != api.OK {
			t.Errorf("G6: Take of what Lay made of %#v is %d", brief(p), e)
		}
		expectChain(t, took.Next, took.Data, want, 17, len(s))
	}
}

// TestChainKeepsNoBytes writes over the memory of the text that was given.
func TestChainKeepsNoBytes(t *testing.T) {
	s, want := headers([]int{0, 60, 43}, 6, ones)
	b := []byte(s)
	found, follows, at, e := ip6.Chain(0, hostOf(b))
	n := ip6.Head(0, hostOf(b))
	if string(b) != s {
		t.Errorf("R3: the bytes that were given have become %q", b)
	}
	for i := range b {
		b[i] = 'X'
	}
	if !slices.Equal(found, want) || follows != 6 || at != 24 || e != api.OK || n != 24 {
		t.Errorf("R3: headers change with what Chain was given: %v %d %d %d, Head %d", found, follows, at, e, n)
	}
}

func TestChainsAreIndependent(t *testing.T) {
	s, want := headers([]int{0, 60, 43}, 6, ones)
	one, _, _, _ := ip6.Chain(0, s)
	two, _, _, _ := ip6.Chain(0, s)
	spare := one[:cap(one)]
	for i := range spare {
		spare[i] = api.Ext{Kind: 99, At: 99, Len: 99}
	}
	_ = append(one, api.Ext{Kind: 98})
	if !slices.Equal(two, want) {
		t.Errorf("R3: headers that were written over change others: %v", two)
	}
	expectChain(t, 0, s, want, 6, 24)
}
