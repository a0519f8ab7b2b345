package tally_test

import (
	"encoding/binary"
	"math"
	"slices"
	"testing"

	"crossway/api"
	"crossway/tally"
)

// spare is what stands behind the length of each slice that room makes.
var spare = []byte{201, 202, 203, 204, 205}

// room is a slice whose memory goes on behind its length: the bytes asked for,
// then spare ones that no call may read or write.
func room(b ...byte) []byte {
	whole := append(slices.Clone(b), spare...)
	return whole[:len(b)]
}

// untouched tells whether a slice made by room is as it was, its spare bytes too.
func untouched(b []byte, want ...byte) bool {
	whole := b[:len(b)+len(spare)]
	return slices.Equal(b, want) && slices.Equal(whole[len(b):], spare)
}

// edges are words at which a sum or a complement may go wrong.
var edges = []uint16{0, 1, 2, 127, 128, 255, 256, 257, 32766, 32767, 32768, 32769, 65279, 65280, 65533, 65534, 65535}

// source tells numbers that look like chance, the same ones in each run.
type source uint64

func (s *source) next() uint64 {
	*s = *s*6364136223846793005 + 1442695040888963407
	return uint64(*s ^ *s>>29)
}

func (s *source) bytes(n int) []byte {
	b := make([]byte, n)
	for i := range b {
		b[i] = byte(s.next() >> 11)
	}
	return b
}

// reduced is a sum of words as Add leaves it: 0 for nothing but zeros, else 1 to 65535.
func reduced(total uint64) uint16 {
	if total == 0 {
		return 0
	}
	return uint16((total-1)%65535 + 1)
}

// plainSum is what A1 says of the bytes of all parts, by one great number.
func plainSum(parts ...[]byte) uint16 {
	all := slices.Concat(parts...)
	if len(all)%2 == 1 {
		all = append(all, 0)
	}
	var total uint64
	for i := 0; i < len(all); i += 2 {
		total += uint64(binary.BigEndian.Uint16(all[i:]))
	}
	return reduced(total)
}

// expectSum holds Sum and Check of some parts against a sum.
func expectSum(t *testing.T, what string, want uint16, parts ...[]byte) {
	t.Helper()
	if n := tally.Sum(parts...); n != want {
		t.Errorf("A1: Sum of %s is %d, not %d", what, n, want)
	}
	if n := tally.Check(parts...); n != 65535-want {
		t.Errorf("A1: Check of %s is %d, not %d", what, n, 65535-want)
	}
}

func TestAddExamples(t *testing.T) {
	for _, c := range []struct{ a, b, want uint16 }{
		{0, 0, 0}, {0, 1, 1}, {1, 0, 1}, {258, 768, 1026},
		{65535, 0, 65535}, {0, 65535, 65535}, {65534, 1, 65535}, {32767, 32768, 65535},
		{65535, 1, 1}, {1, 65535, 1}, {32768, 32768, 1}, {65534, 2, 1},
		{65534, 65535, 65534}, {65534, 65534, 65533}, {65535, 65535, 65535},
		{40000, 30000, 4465},
	} {
		if n := tally.Add(c.a, c.b); n != c.want {
			t.Errorf("A1: Add(%d, %d) is %d, not %d", c.a, c.b, n, c.want)
		}
	}
}

func TestAddEachWord(t *testing.T) {
	for a := range 65536 {
		partners := []int{65535 - a, (65536 - a) & 65535, a}
		for _, b := range edges {
			partners = append(partners, int(b))
		}
		for _, b := range partners {
			want := a + b
			if want > 65535 {
				want -= 65535
			}
			if n := tally.Add(uint16(a), uint16(b)); int(n) != want {
				t.Fatalf("A1: Add(%d, %d) is %d, not %d", a, b, n, want)
			}
		}
	}
}

func TestSumOfNothing(t *testing.T) {
	expectSum(t, "no parts", 0)
	expectSum(t, "an empty list of parts", 0, [][]byte{}...)
	expectSum(t, "a nil list of parts", 0, [][]byte(nil)...)
	expectSum(t, "a nil part", 0, nil)
	expectSum(t, "an empty part", 0, []byte{})
	expectSum(t, "empty and nil parts", 0, []byte{}, nil, []byte{}, nil)
	expectSum(t, "a byte of 0", 0, []byte{0})
	expectSum(t, "zeros", 0, make([]byte, 1001), make([]byte, 4))
}

func TestSumExamples(t *testing.T) {
	for _, c := range []struct {
		want  uint16
		parts [][]byte
	}{
		{1026, [][]byte{{1, 2}, {3}}},
		{258, [][]byte{{1}, {2}}},
		{256, [][]byte{{1}}},
		{65280, [][]byte{{255}}},
		{1, [][]byte{{0, 1}}},
		{258, [][]byte{{1, 2}}},
		{1026, [][]byte{{1, 2, 3}}},
		{65535, [][]byte{{255, 255}}},
		{65535, [][]byte{{255, 254}, {0, 1}}},
		{65535, [][]byte{{128, 0, 127, 255}}},
		{1, [][]byte{{255, 255, 0, 1}}},
		{1, [][]byte{{128, 0, 128, 0}}},
		{65535, [][]byte{{255, 255, 255, 255}}},
		{65535, [][]byte{{255, 255, 0, 0}}},
		{65534, [][]byte{{255, 255}, {255, 254}}},
		{256, [][]byte{{255, 255, 1}}},
		{39216, [][]byte{{69, 0, 0, 28, 0, 0, 0, 0, 64, 17, 0, 0, 10, 0, 0, 1, 10, 0, 0, 2}}},
	} {
		expectSum(t, "an example", c.want, c.parts...)
	}
}

func TestSumGoesAcrossParts(t *testing.T) {
	expectSum(t, "a nil part within a word", 258, []byte{1}, nil, []byte{2})
	expectSum(t, "empty parts within a word", 258, nil, []byte{}, []byte{1}, []byte{}, nil, []byte{}, []byte{2}, []byte{})
	expectSum(t, "odd parts", 258+772, []byte{1}, []byte{2, 3}, []byte{4})
	expectSum(t, "three odd parts", 258+772+1280, []byte{1, 2, 3}, []byte{4}, []byte{5})
	expectSum(t, "odd, then even parts", 258+772+1286+1792, []byte{1}, []byte{2, 3}, []byte{4, 5}, []byte{6, 7})
	all := []byte{200, 7, 255, 255, 0, 131, 90, 2, 250, 249, 33}
	for size := range len(all) + 1 {
		b := all[:size]
		want := plainSum(b)
		for i := range size + 1 {
			for j := i; j <= size; j++ {
				expectSum(t, "three pieces", want, b[:i], b[i:j], b[j:])
			}
		}
		var single [][]byte
		for i := range size {
			single = append(single, b[i:i+1], nil)
		}
		expectSum(t, "single bytes", want, single...)
	}
}

func TestSumOfMany(t *testing.T) {
	// As many words of 65535 as make a sum of 32 bits run over.
	full := slices.Repeat([]byte{255}, 2*70000)
	expectSum(t, "words of 255 255", 65535, full)
	expectSum(t, "words of 255 255, across two parts", 65535, full[1:], full[:1])
	expectSum(t, "words of 255 255, and 1", 1, full, []byte{0, 1})
	expectSum(t, "1, and words of 255 255", 1, []byte{0, 1}, full)
	expectSum(t, "words of 255 255, and 1 across two parts", 258, []byte{1}, []byte{2}, full)
	expectSum(t, "words of 255 255, and a byte of 255", 65280, full, []byte{255})
	parts := make([][]byte, 140001)
	for i := range parts {
		parts[i] = full[:1]
	}
	expectSum(t, "parts of one byte", 65280, parts...)
	for _, n := range []int{1, 2, 3, 255, 256, 65535, 65536, 65537, 65538} {
		expectSum(t, "words of 1", reduced(uint64(n)), slices.Repeat([]byte{0, 1}, n))
		expectSum(t, "words of 256", reduced(uint64(n)*256), slices.Repeat([]byte{1, 0}, n))
	}
}

func TestSumOfLooseBytes(t *testing.T) {
	s := source(1)
	for range 300 {
		var parts [][]byte
		for range s.next() % 6 {
			parts = append(parts, s.bytes(int(s.next()>>7%70)))
		}
		expectSum(t, "loose bytes", plainSum(parts...), parts...)
	}
}

func TestSumLeavesItsArguments(t *testing.T) {
	first, second, behind := room(1, 2, 3), room(4), room(77)
	whole := [][]byte{first, second, nil, behind}
	parts := whole[:3]
	// The spare bytes behind an odd part are no part of its last word.
	if n := tally.Sum(parts...); n != 258+772 {
		t.Errorf("A1: Sum of parts with spare memory is %d", n)
	}
	if n := tally.Check(parts...); n != 65535-258-772 {
		t.Errorf("A1: Check of parts with spare memory is %d", n)
	}
	if n := tally.Sum(room(255)); n != 65280 {
		t.Errorf("A1: Sum of a last byte with spare memory is %d", n)
	}
	if !untouched(first, 1, 2, 3) || !untouched(second, 4) || !untouched(behind, 77) {
		t.Errorf("A1: a part was changed: %v", whole)
	}
	if &whole[0][0] != &first[0] || &whole[1][0] != &second[0] || whole[2] != nil || &whole[3][0] != &behind[0] {
		t.Errorf("A1: the list of parts was changed: %v", whole)
	}
	if len(whole[0]) != 3 || len(whole[1]) != 1 || len(whole[3]) != 1 {
		t.Errorf("A1: a part has another length: %v", whole)
	}
}

func TestSumReadsWhatIs(t *testing.T) {
	b := []byte{1, 2, 3}
	expectSum(t, "what was first", 1026, b)
	b[1] = 5
	expectSum(t, "what was changed", 1029, b)
	expectSum(t, "another one", 9, []byte{0, 9})
	expectSum(t, "the same again", 1029, b)
}

func TestUpdateExamples(t *testing.T) {
	for _, c := range []struct{ check, old, now, want uint16 }{
		{26319, 16401, 16145, 26575},
		{0xDD2F, 0x5555, 0x3285, 0},
		{0, 0, 0, 0}, {65535, 65535, 65535, 0}, {65535, 0, 0, 0},
		{0, 65535, 0, 0}, {0, 0, 65535, 0}, {65535, 65535, 0, 65535},
		{65535, 0, 65535, 0}, {0, 65535, 65535, 0},
		{0, 0, 1, 65534}, {65535, 0, 1, 65534}, {65535, 65535, 1, 65534},
		{0, 1, 0, 1}, {65534, 1, 0, 0}, {65534, 1, 1, 65534}, {100, 7, 7, 100},
	} {
		if n := tally.Update(c.check, c.old, c.now); n != c.want {
			t.Errorf("A2: Update(%d, %d, %d) is %d, not %d", c.check, c.old, c.now, n, c.want)
		}
	}
}

func TestUpdateEachEdge(t *testing.T) {
	plain := func(check, old, now int) int {
		inner := 65535 - check + 65535 - old
		if inner > 65535 {
			inner -= 65535
		}
		inner += now
		if inner > 65535 {
			inner -= 65535
		}
		return 65535 - inner
	}
	s := source(2)
	words := slices.Clone(edges)
	for range 40 {
		words = append(words, uint16(s.next()>>9))
	}
	for _, check := range words {
		for _, old := range words {
			for _, now := range words {
				want := plain(int(check), int(old), int(now))
				if n := tally.Update(check, old, now); int(n) != want {
					t.Fatalf("A2: Update(%d, %d, %d) is %d, not %d", check, old, now, n, want)
				}
			}
		}
	}
}

// header is the pseudo-header that A3 tells of, byte for byte.
func header(from, to api.Addr, length, proto int) []byte {
	var b []byte
	if from.Six {
		for _, n := range []uint64{from.Hi, from.Lo, to.Hi, to.Lo} {
			b = binary.BigEndian.AppendUint64(b, n)
		}
		b = binary.BigEndian.AppendUint32(b, uint32(length))
		return append(b, 0, 0, 0, byte(proto))
	}
	b = binary.BigEndian.AppendUint32(b, uint32(from.Lo))
	b = binary.BigEndian.AppendUint32(b, uint32(to.Lo))
	b = append(b, 0, byte(proto))
	return binary.BigEndian.AppendUint16(b, uint16(length))
}

func TestPseudoExamples(t *testing.T) {
	four := func(lo uint64) api.Addr { return api.Addr{Lo: lo} }
	six := func(hi, lo uint64) api.Addr { return api.Addr{Six: true, Hi: hi, Lo: lo} }
	for _, c := range []struct {
		what          string
		from, to      api.Addr
		length, proto int
		want          uint16
	}{
		{"an example", four(1), four(2), 8, 17, 28},
		{"an example", six(1, 0), six(0, 2), 65537, 58, 63},
		{"nothing", four(0), four(0), 0, 0, 0},
		{"nothing", six(0, 0), six(0, 0), 0, 0, 0},
		{"10.0.0.1 and 10.0.0.2", four(0x0A000001), four(0x0A000002), 20, 6, 2560 + 1 + 2560 + 2 + 20 + 6},
		{"each word of from", four(0x01000002), four(0), 0, 0, 258},
		{"each word of to", four(0), four(0x01000002), 0, 0, 258},
		{"bits beyond 32 of from", four(7<<32 | 1), four(2), 8, 17, 28},
		{"bits beyond 32 of to", four(1), four(7<<32 | 2), 8, 17, 28},
		{"Hi of both", api.Addr{Hi: 9, Lo: 1}, api.Addr{Hi: 5, Lo: 2}, 8, 17, 28},
		{"each word of from", six(0x0001000200040008, 0x0010002000400080), six(0, 0), 0, 0, 255},
		{"each word of to", six(0, 0), six(0x0001000200040008, 0x0010002000400080), 0, 0, 255},
		{"from is none with Six, to is", four(1), six(9, 5<<32|2), 8, 17, 28},
		{"from is one with Six, to is none", six(1, 0), api.Addr{Hi: 3, Lo: 1<<32 | 2}, 65537, 58, 67},
		{"a length of 65535", four(0), four(0), 65535, 0, 65535},
		{"a length of 65536", four(0), four(0), 65536, 0, 0},
		{"a length of more bits", four(0), four(0), 5<<32 | 3<<16 | 8, 0, 8},
		{"a length of -2", four(0), four(0), -2, 0, 65534},
		{"the least length", four(0), four(0), math.MinInt, 0, 0},
		{"the greatest length", four(0), four(0), math.MaxInt, 0, 65535},
		{"a length of 65535", six(0, 0), six(0, 0), 65535, 0, 65535},
		{"a length of 65536", six(0, 0), six(0, 0), 65536, 0, 1},
		{"a length of 32 bits", six(0, 0), six(0, 0), 1<<32 - 2, 0, 65534},
		{"a length of more bits", six(0, 0), six(0, 0), 5<<32 | 3<<16 | 8, 0, 11},
		{"a length of -2", six(0, 0), six(0, 0), -2, 0, 65534},
		{"the least length", six(0, 0), six(0, 0), math.MinInt, 0, 0},
		{"a length near the least", six(0, 0), six(0, 0), math.MinInt + 3, 0, 3},
		{"a protocol of 255", four(0), four(0), 0, 255, 255},
		{"a protocol of 256", four(0), four(0), 0, 256, 0},
		{"a protocol of more bits", four(0), four(0), 0, 9<<40 | 256 + 17, 17},
		{"a protocol of -1", four(0), four(0), 0, -1, 255},
		{"a protocol near the least", four(0), four(0), 0, math.MinInt + 6, 6},
		{"a protocol of 255", six(0, 0), six(0, 0), 0, 255, 255},
		{"a protocol of 256", six(0, 0), six(0, 0), 0, 256, 0},
		{"a protocol of more bits", six(0, 0), six(0, 0), 0, 9<<40 | 256 + 58, 58},
		{"a protocol of -1", six(0, 0), six(0, 0), 0, -1, 255},
		{"a protocol near the least", six(0, 0), six(0, 0), 0, math.MinInt + 6, 6},
	} {
		if n := tally.Pseudo(c.from, c.to, c.length, c.proto); n != c.want {
			t.Errorf("A3: %s: Pseudo(%v, %v, %d, %d) is %d, not %d", c.what, c.from, c.to, c.length, c.proto, n, c.want)
		}
	}
}

func TestPseudoOfLooseEnds(t *testing.T) {
	s := source(3)
	numbers := []int{0, 1, 17, 58, 255, 256, 1500, 65535, 65536, 1<<31 - 1, 1 << 31, 1 << 32, 1<<32 + 1<<16 + 1, math.MaxInt, math.MinInt, -1, -2, -256, -65536, -1 << 32}
	end := func() api.Addr {
		return api.Addr{Six: s.next()>>17%2 == 0, Hi: s.next(), Lo: s.next()}
	}
	for _, length := range numbers {
		for _, proto := range numbers {
			for range 4 {
				from, to := end(), end()
				want := plainSum(header(from, to, length, proto))
				if n := tally.Pseudo(from, to, length, proto); n != want {
					t.Errorf("A3: Pseudo(%v, %v, %d, %d) is %d, not %d", from, to, length, proto, n, want)
				}
			}
		}
	}
}

// samples are bytes of even and odd lengths: loose ones, zeros, and ones.
func samples() [][]byte {
	s := source(4)
	var out [][]byte
	for size := range 26 {
		out = append(out, s.bytes(size), make([]byte, size), slices.Repeat([]byte{255}, size))
	}
	return out
}

func TestACheckCompletesASum(t *testing.T) {
	for _, b := range samples() {
		for at := 0; at+2 <= len(b); at += 2 {
			whole := slices.Clone(b)
			whole[at], whole[at+1] = 0, 0
			check := tally.Check(whole)
			whole[at], whole[at+1] = byte(check>>8), byte(check)
			if n := tally.Sum(whole); n != 65535 {
				t.Errorf("A4: the Sum of %v, with the Check at %d, is %d", whole, at, n)
			}
			if n := tally.Check(whole); n != 0 {
				t.Errorf("A4: the Check of %v, with the Check at %d, is %d", whole, at, n)
			}
		}
	}
}

func TestACheckCompletesParts(t *testing.T) {
	from, to := api.Addr{Lo: 0x0A000001}, api.Addr{Lo: 0xC0A80102}
	data := []byte{0, 9, 200, 7, 0, 11, 0, 0, 1, 2, 3}
	check := tally.Check(header(from, to, len(data), 17), data)
	if n := 65535 - tally.Add(tally.Pseudo(from, to, len(data), 17), tally.Sum(data)); n != check {
		t.Errorf("A5: the Check by a Pseudo is %d, not %d", n, check)
	}
	data[6], data[7] = byte(check>>8), byte(check)
	if n := tally.Sum(header(from, to, len(data), 17), data[:3], data[3:]); n != 65535 {
		t.Errorf("A4: the Sum of parts with the Check is %d", n)
	}
}

// setWord lays a word at an even position; of a single last byte, its first byte.
func setWord(b []byte, at int, word uint16) {
	b[at] = byte(word >> 8)
	if at+1 < len(b) {
		b[at+1] = byte(word)
	}
}

// wordAt is the word at an even position.
func wordAt(b []byte, at int) uint16 {
	if at+1 < len(b) {
		return binary.BigEndian.Uint16(b[at:])
	}
	return uint16(b[at]) << 8
}

func TestUpdateFollowsAWord(t *testing.T) {
	for _, b := range samples() {
		check := tally.Check(b)
		for at := 0; at < len(b); at += 2 {
			for _, word := range edges {
				after := slices.Clone(b)
				setWord(after, at, word)
				if !slices.ContainsFunc(after, func(x byte) bool { return x != 0 }) {
					continue
				}
				got := tally.Update(check, wordAt(b, at), wordAt(after, at))
				if want := tally.Check(after); got != want {
					t.Errorf("A4: Update for %d at %d of %v is %d, not %d", word, at, b, got, want)
				}
			}
		}
	}
}

func TestUpdateToAllZeros(t *testing.T) {
	// Here A4 does not hold: the Check of zeros is 65535, and A2 says 0.
	for size := 1; size < 9; size++ {
		for at := 0; at < size; at += 2 {
			for _, word := range edges {
				b := make([]byte, size)
				setWord(b, at, word)
				if got := tally.Update(tally.Check(b), wordAt(b, at), 0); got != 0 {
					t.Errorf("A2: Update of %v to zeros is %d, not 0", b, got)
				}
			}
		}
		if n := tally.Check(make([]byte, size)); n != 65535 {
			t.Errorf("A1: the Check of %d zeros is %d", size, n)
		}
	}
}

func TestAddInAnyOrder(t *testing.T) {
	s := source(5)
	words := slices.Clone(edges)
	for range 40 {
		words = append(words, uint16(s.next()>>9))
	}
	for _, a := range words {
		for _, b := range words {
			if n, m := tally.Add(a, b), tally.Add(b, a); n != m {
				t.Fatalf("A5: Add(%d, %d) is %d, the other way round %d", a, b, n, m)
			}
			for _, c := range words {
				n, m := tally.Add(tally.Add(a, b), c), tally.Add(a, tally.Add(b, c))
				if n != m {
					t.Fatalf("A5: the sums of %d, %d, %d are %d and %d", a, b, c, n, m)
				}
			}
		}
	}
}

func TestSumOfWordsInAnotherOrder(t *testing.T) {
	s := source(6)
	for _, b := range samples() {
		if len(b)%2 == 1 {
			b = append(b, 0)
		}
		want := tally.Sum(b)
		words := len(b) / 2
		mixed := slices.Clone(b)
		for range 10 {
			for i := words - 1; i > 0; i-- {
				j := int(s.next() >> 9 % uint64(i+1))
				x, y := wordAt(mixed, 2*i), wordAt(mixed, 2*j)
				setWord(mixed, 2*i, y)
				setWord(mixed, 2*j, x)
			}
			if n := tally.Sum(mixed); n != want {
				t.Errorf("A5: the Sum of %v is %d, of its words in another order %d", b, want, n)
			}
		}
	}
}

func TestSumOfSwappedBytes(t *testing.T) {
	for _, b := range samples() {
		if len(b)%2 == 1 {
			b = append(b, 0)
		}
		swapped := slices.Clone(b)
		for i := 0; i < len(b); i += 2 {
			swapped[i], swapped[i+1] = b[i+1], b[i]
		}
		n := tally.Sum(b)
		if m := tally.Sum(swapped); m != n<<8|n>>8 {
			t.Errorf("A5: the Sum of %v is %d, with its bytes swapped %d", b, n, m)
		}
	}
}

func TestSumOfEvenParts(t *testing.T) {
	for _, b := range samples() {
		want := tally.Sum(b)
		for at := 0; at <= len(b); at += 2 {
			if n := tally.Add(tally.Sum(b[:at]), tally.Sum(b[at:])); n != want {
				t.Errorf("A5: the Sum of %v, in two at %d, is %d, not %d", b, at, n, want)
			}
			// A part's own Sum may stand in its place, as a word.
			own := binary.BigEndian.AppendUint16(nil, tally.Sum(b[:at]))
			if n := tally.Sum(own, b[at:]); n != want {
				t.Errorf("A5: the Sum of %v, with that of the first %d as a word, is %d, not %d", b, at, n, want)
			}
			for end := at; end <= len(b); end += 2 {
				n := tally.Add(tally.Sum(b[at:end]), tally.Sum(b[:at], b[end:]))
				if n != want {
					t.Errorf("A5: the Sum of %v, from %d to %d separately, is %d, not %d", b, at, end, n, want)
				}
			}
		}
	}
}
