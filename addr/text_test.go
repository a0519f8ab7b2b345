package addr_test

import (
	"net/netip"
	"regexp"
	"slices"
	"strconv"
	"strings"
	"testing"

	"crossway/addr"
	"crossway/api"
)

// expectParse holds Parse of a text against an address.
func expectParse(t *testing.T, s string, want api.Addr) {
	t.Helper()
	if a, e := addr.Parse(s); a != want || e != api.OK {
		t.Errorf("B1: Parse(%q) is %v %d, not %v", start(s), a, e, want)
	}
}

// expectNoForm holds Parse of a text against the one error.
func expectNoForm(t *testing.T, s string) {
	t.Helper()
	if a, e := addr.Parse(s); a != (api.Addr{}) || e != api.ErrAddrForm {
		t.Errorf("B1: Parse(%q) is %v %d, and it is no address", start(s), a, e)
	}
}

// start is the beginning of a text, to be told.
func start(s string) string {
	return s[:min(len(s), 60)]
}

// anyForm is what the chapter says of both forms, as one pattern.
var anyForm = func() *regexp.Regexp {
	number := "(0|[1-9][0-9]?|1[0-9][0-9]|2[0-4][0-9]|25[0-5])"
	group := "[0-9a-fA-F]{1,4}"
	forms := []string{number + "([.]" + number + "){3}", group + "(:" + group + "){7}"}
	some := func(n int) string {
		if n == 0 {
			return ""
		}
		return group + "(:" + group + "){" + strconv.Itoa(n-1) + "}"
	}
	for front := range 8 {
		for back := range 8 - front {
			forms = append(forms, some(front)+"::"+some(back))
		}
	}
	return regexp.MustCompile(`\A(` + strings.Join(forms, "|") + `)\z`)
}()

// expectAsForm holds Parse of a text against the pattern, and against the
// library for the number.
func expectAsForm(t *testing.T, s string) {
	t.Helper()
	if !anyForm.MatchString(s) {
		expectNoForm(t, s)
		return
	}
	o, err := netip.ParseAddr(s)
	if err != nil {
		t.Fatalf("the pattern takes %q for an address, the library does not", s)
	}
	want := api.Addr{Six: o.Is6()}
	for i, b := range o.AsSlice() {
		if o.Is6() && i < 8 {
			want.Hi = want.Hi<<8 | uint64(b)
		} else {
			want.Lo = want.Lo<<8 | uint64(b)
		}
	}
	expectParse(t, s, want)
}

func TestParseExamples(t *testing.T) {
	for s, want := range map[string]api.Addr{
		"10.0.0.1":        {Lo: 167772161},
		"0.0.0.0":         {},
		"1.2.3.4":         four(1, 2, 3, 4),
		"255.255.255.255": {Lo: 1<<32 - 1},
		"192.168.100.9":   four(192, 168, 100, 9),
		"::":              {Six: true},
		"::1":             {Six: true, Lo: 1},
		"0:0:0:0:0:0:0:1": {Six: true, Lo: 1},
		"0000:0000:0000:0000:0000:0000:0000:0001": {Six: true, Lo: 1},
		"1::":                  six(1, 0, 0, 0, 0, 0, 0, 0),
		"2001:DB8::":           {Six: true, Hi: 2306139568115548160},
		"1:2:3:4:5:6:7:8":      six(1, 2, 3, 4, 5, 6, 7, 8),
		"1:2:3:4:5:6:7::":      six(1, 2, 3, 4, 5, 6, 7, 0),
		"::2:3:4:5:6:7:8":      six(0, 2, 3, 4, 5, 6, 7, 8),
		"1:2:3::5:6:7:8":       six(1, 2, 3, 0, 5, 6, 7, 8),
		"1::8":                 six(1, 0, 0, 0, 0, 0, 0, 8),
		"::ffff:a00:1":         six(0, 0, 0, 0, 0, 0xffff, 0xa00, 1),
		"aBcD:EfAb:cdef:6::9f": six(0xabcd, 0xefab, 0xcdef, 6, 0, 0, 0, 0x9f),
		"ffff:ffff:ffff:ffff:ffff:ffff:ffff:FFFF": {Six: true, Hi: 1<<64 - 1, Lo: 1<<64 - 1},
		"0::0":            {Six: true},
		"::0:0:0:0:0:0:0": {Six: true},
		"0:0:0:0:0:0:0::": {Six: true},
	} {
		expectParse(t, s, want)
	}
}

func TestParseFourEachNumber(t *testing.T) {
	words := []string{"10", "0", "255", "7"}
	for at := range words {
		for n := range 2000 {
			parts := slices.Clone(words)
			parts[at] = strconv.Itoa(n)
			s := strings.Join(parts, ".")
			if n > 255 {
				expectNoForm(t, s)
				continue
			}
			numbers := []uint64{10, 0, 255, 7}
			numbers[at] = uint64(n)
			expectParse(t, s, four(numbers[0], numbers[1], numbers[2], numbers[3]))
			for zeros := 1; zeros < 4; zeros++ {
				parts[at] = strings.Repeat("0", zeros) + strconv.Itoa(n)
				expectNoForm(t, strings.Join(parts, "."))
			}
		}
		for _, word := range []string{"", " ", "+1", "-1", "-0", "+0", "1 ", " 1", "0x1", "1e1", "1_0", "a", "٣", "1\n", "\x00", "1\x00", "256", "1000", "18446744073709551616", "18446744073709551617", "4294967297"} {
			parts := slices.Clone(words)
			parts[at] = word
			expectNoForm(t, strings.Join(parts, "."))
		}
	}
}

func TestParseFourCounts(t *testing.T) {
	for n := range 12 {
		s := strings.Join(slices.Repeat([]string{"1"}, n), ".")
		if n == 4 {
			expectParse(t, s, four(1, 1, 1, 1))
		} else {
			expectNoForm(t, s)
		}
		expectNoForm(t, s+".")
		expectNoForm(t, "."+s)
		expectNoForm(t, strings.Repeat(".", n))
	}
	for _, s := range []string{"", " ", "1", "256", "1.2.3", "1.2.3.", ".1.2.3", "1..2.3", "1.2.3.4.5", "1.2.3.4.", ".1.2.3.4", "1.2..3.4", "01.2.3.4", "1.2.3.04", "00.0.0.0", "0.0.0.00", "1.2.3.256", "1,2,3,4", "1.2.3:4", "1.2.3.4/8", "1.2.3.4 ", " 1.2.3.4", "1.2.3.4\n", "16909060", "0x1020304", "a.b.c.d", "1.2.3.a", "１.2.3.4", "+1.2.3.4", "1.2.3.+4", "1.2.3.-4"} {
		expectNoForm(t, s)
	}
}

func TestParseSixWrong(t *testing.T) {
	for _, s := range []string{
		":", ":::", "::::", ":::::", "1", "ffff", "1:", ":1", "1:2:3:4:5:6:7", "1:2:3:4:5:6:7:", ":1:2:3:4:5:6:7", "1:2:3:4:5:6:7:8:9", "1:2:3:4:5:6:7:8:", ":1:2:3:4:5:6:7:8",
		"1:2:3:4:5:6:7:8::", "::1:2:3:4:5:6:7:8", "1:2:3:4::5:6:7:8", "1:2:3:4:5:6:7::8", "1:2:3:4:5:6:7:8:9::", "::1:2:3:4:5:6:7:8:9",
		"::1::", "1::2::3", "::::1", "1:::2", ":::1", "1:::", ":1::", "::1:", ":1::2", "1::2:", "1::00001", "00001::", "12345::", "::12345", "::10000", "1:2:3:4:5:6:7:00008", "1:2:3:4:5:6:7:12345",
		"::g", "::G", "g::", "::/", "::@", "::`", "::-1", "::+1", "::0x1", "::x", "::1_0", ":: 1", "::1 ", " ::1", ":: ", "::1\n", "::\x00", "::ä", "::1%0", "::1%eth0", "[::1]", "::1/64", "1: :2:3:4:5:6:7",
		"::1.2.3.4", "::ffff:1.2.3.4", "1:2:3:4:5:6:1.2.3.4", "1.2.3.4::", "1.2.3.4:1:2:3:4:5:6", "::1.2", ":.:", "1:2:3:4:5:6:7.8", "2001;db8;;",
	} {
		expectNoForm(t, s)
	}
}

// word is a group as a text, of so many digits at the least, in great or small letters.
func word(value uint64, digits int, great bool) string {
	s := strconv.FormatUint(value, 16)
	s = strings.Repeat("0", max(digits-len(s), 0)) + s
	if great {
		return strings.ToUpper(s)
	}
	return s
}

func TestParseSixEachShape(t *testing.T) {
	for front := range 10 {
		for back := range 10 {
			for digits := 1; digits <= 5; digits++ {
				var before, after []string
				var g [8]uint64
				for i := range front {
					value := uint64(0xf - i)
					before = append(before, word(value, digits, i%2 == 0))
					g[min(i, 7)] = value
				}
				for i := range back {
					value := uint64(0xa + i)
					after = append(after, word(value, digits, i%3 == 0))
					g[max(8-back+i, 0)] = value
				}
				s := strings.Join(before, ":") + "::" + strings.Join(after, ":")
				if front+back == 0 || front+back <= 7 && digits <= 4 {
					expectParse(t, s, six(g[:]...))
				} else {
					expectNoForm(t, s)
				}
			}
		}
	}
}

func TestParseSixWithoutGap(t *testing.T) {
	for n := range 20 {
		for digits := 1; digits <= 5; digits++ {
			var words []string
			var g [8]uint64
			for i := range n {
				words = append(words, word(uint64(i), digits, true))
				g[min(i, 7)] = uint64(i)
			}
			s := strings.Join(words, ":")
			if n == 8 && digits <= 4 {
				expectParse(t, s, six(g[:]...))
			} else {
				expectNoForm(t, s)
			}
		}
	}
}

func TestParseSixEachGroup(t *testing.T) {
	for value := range uint64(1 << 16) {
		digits := int(value % 5)
		expectParse(t, "1:2:"+word(value, digits, value%2 == 0)+"::9", six(1, 2, value, 0, 0, 0, 0, 9))
	}
}

// near are all texts that differ in one byte from s: another one, one more or one less.
func near(s string) []string {
	var all []string
	for at := range len(s) + 1 {
		for b := range 256 {
			all = append(all, s[:at]+string([]byte{byte(b)})+s[at:])
			if at < len(s) {
				all = append(all, s[:at]+string([]byte{byte(b)})+s[at+1:])
			}
		}
		if at < len(s) {
			all = append(all, s[:at]+s[at+1:])
		}
	}
	return all
}

func TestParseNearForms(t *testing.T) {
	for _, s := range []string{"", "1.2.3.4", "10.20.250.0", "199.25.255.100", "::", "::1", "1::", "a:b::C:D", "1:2:3:4:5:6:7:8", "1:2:3::5:6:7:8", "f:e:d:c:b:a:9::", "12:345:6789:abcd:EF01:2:3:45"} {
		for _, x := range near(s) {
			expectAsForm(t, x)
		}
	}
}

func TestParseTextsLikeChance(t *testing.T) {
	s := source(11)
	letters := ":::::....0112259afAFg +-/%"
	for range 200000 {
		b := make([]byte, s.below(24))
		for i := range b {
			b[i] = letters[s.below(len(letters))]
		}
		expectAsForm(t, string(b))
	}
	pieces := []string{":", ":", ":", "::", "1", "0", "ab", "FFFF", "10000", "", ".", "1.2.3.4", "01", "255"}
	for range 200000 {
		var text strings.Builder
		for range s.below(18) {
			text.WriteString(pieces[s.below(len(pieces))])
		}
		expectAsForm(t, text.String())
	}
}

func TestParseLongTexts(t *testing.T) {
	const n = 1 << 20
	for _, piece := range []string{"0", "1", "9", "f", ".", ":", "::", "1.", "1:", ":1", "1::", "0.0.0.0.", "\x00", "\xff", " ", "g"} {
		long := strings.Repeat(piece, n/len(piece))
		expectNoForm(t, long)
		for _, good := range []string{"1.2.3.4", "::1", "1:2:3:4:5:6:7:8", "1::"} {
			expectNoForm(t, long+good)
			expectNoForm(t, good+long)
			expectNoForm(t, good+":"+long)
			expectNoForm(t, good+"."+long)
		}
	}
	zeros := strings.Repeat("0", n)
	for _, s := range []string{zeros + "::", "::" + zeros, "1::" + zeros + ":2", zeros + ".1.2.3", "1.2.3." + zeros, "1.2." + zeros + ".3", "1:2:3:4:5:6:7:" + zeros} {
		expectNoForm(t, s)
	}
}

func TestPrintExamples(t *testing.T) {
	for want, a := range map[string]api.Addr{
		"0.0.0.0":            {},
		"0.0.0.1":            {Lo: 1},
		"10.0.0.1":           {Lo: 167772161},
		"1.20.100.255":       four(1, 20, 100, 255),
		"255.255.255.255":    {Lo: 1<<32 - 1},
		"::":                 {Six: true},
		"::1":                {Six: true, Lo: 1},
		"1::":                six(1, 0, 0, 0, 0, 0, 0, 0),
		"::1:0:0:0:1":        {Six: true, Hi: 1, Lo: 1},
		"0:0:1::1:0":         {Six: true, Hi: 65536, Lo: 65536},
		"1:2:3:4:5:6:7:8":    six(1, 2, 3, 4, 5, 6, 7, 8),
		"0:2:3:4:5:6:7:8":    six(0, 2, 3, 4, 5, 6, 7, 8),
		"1:2:3:0:5:6:7:8":    six(1, 2, 3, 0, 5, 6, 7, 8),
		"1:2:3:4:5:6:7:0":    six(1, 2, 3, 4, 5, 6, 7, 0),
		"0:2:0:4:0:6:0:8":    six(0, 2, 0, 4, 0, 6, 0, 8),
		"0:1:2:3:4:5:6:0":    six(0, 1, 2, 3, 4, 5, 6, 0),
		"::3:4:5:6:7:8":      six(0, 0, 3, 4, 5, 6, 7, 8),
		"1::4:5:6:7:8":       six(1, 0, 0, 4, 5, 6, 7, 8),
		"1:2:3:4:5:6::":      six(1, 2, 3, 4, 5, 6, 0, 0),
		"::3:0:0:6:0:0":      six(0, 0, 3, 0, 0, 6, 0, 0),
		"1::4:0:0:7:8":       six(1, 0, 0, 4, 0, 0, 7, 8),
		"0:0:3::7:8":         six(0, 0, 3, 0, 0, 0, 7, 8),
		"0:0:3:4:5::":        six(0, 0, 3, 4, 5, 0, 0, 0),
		"::4:5:6:0:0":        six(0, 0, 0, 4, 5, 6, 0, 0),
		"0:1::":              six(0, 1, 0, 0, 0, 0, 0, 0),
		"::1:0":              six(0, 0, 0, 0, 0, 0, 1, 0),
		"0:1::1":             {Six: true, Hi: 1 << 32, Lo: 1},
		"1:0:2:3:4:5:6:abcd": six(1, 0, 2, 3, 4, 5, 6, 0xabcd),
		"::ffff:a00:1":       {Six: true, Lo: 0xffff0a000001},
		"::ffff:0:0":         {Six: true, Lo: 0xffff << 32},
		"::a00:1":            {Six: true, Lo: 167772161},
		"2001:db8::f0:e":     six(0x2001, 0xdb8, 0, 0, 0, 0, 0xf0, 0xe),
		"abcd:ef0:10:1::":    six(0xabcd, 0xef0, 0x10, 1, 0, 0, 0, 0),
		"ffff:ffff:ffff:ffff:ffff:ffff:ffff:ffff": {Six: true, Hi: 1<<64 - 1, Lo: 1<<64 - 1},
	} {
		if got := addr.Print(a); got != want {
			t.Errorf("B2: Print(%v) is %q, not %q", a, got, want)
		}
	}
}

func TestPrintOfWrongAddresses(t *testing.T) {
	for _, a := range wrong {
		if got := addr.Print(a); got != "" {
			t.Errorf("B2: Print(%v) is %q", a, got)
		}
	}
}

// plainPrint is what B2 says of an IPv6 address, by a search for `::` from the
// longest sequence to the shortest.
func plainPrint(a api.Addr) string {
	var words []string
	for i := range 4 {
		words = append(words, strconv.FormatUint(a.Hi>>(48-16*i)&0xffff, 16))
	}
	for i := range 4 {
		words = append(words, strconv.FormatUint(a.Lo>>(48-16*i)&0xffff, 16))
	}
	for n := 8; n >= 2; n-- {
		zeros := slices.Repeat([]string{"0"}, n)
		for at := range 9 - n {
			if slices.Equal(words[at:at+n], zeros) {
				return strings.Join(words[:at], ":") + "::" + strings.Join(words[at+n:], ":")
			}
		}
	}
	return strings.Join(words, ":")
}

func TestPrintEachSequence(t *testing.T) {
	for _, a := range many() {
		got := addr.Print(a)
		if !mapped(a) && got != outside(a).String() {
			t.Errorf("B2: Print(%v) is %q, not %q", a, got, outside(a))
		}
		if a.Six && got != plainPrint(a) {
			t.Errorf("B2: Print(%v) is %q, not %q", a, got, plainPrint(a))
		}
	}
}

func TestParseUndoesPrint(t *testing.T) {
	texts := map[string]api.Addr{}
	for _, a := range many() {
		s := addr.Print(a)
		if b, e := addr.Parse(s); b != a || e != api.OK {
			t.Errorf("B7: Parse of Print(%v), %q, is %v %d", a, s, b, e)
		}
		if b, is := texts[s]; is && b != a {
			t.Errorf("B7: %v and %v are both printed %q", a, b, s)
		}
		texts[s] = a
	}
}

func TestOfUndoesBytes(t *testing.T) {
	for _, a := range many() {
		if b, e := addr.Of(addr.Bytes(a)); b != a || e != api.OK {
			t.Errorf("B7: Of of Bytes(%v) is %v %d", a, b, e)
		}
	}
	for _, a := range wrong {
		if b, e := addr.Of(addr.Bytes(a)); b != (api.Addr{}) || e != api.ErrAddrForm {
			t.Errorf("B7: Of of Bytes(%v) is %v %d", a, b, e)
		}
	}
}

// others are the IPv6 forms of an address whose groups have no leading zeros:
// without `::`, and with it in place of each sequence of groups of 0.
func others(a api.Addr) []string {
	var words []string
	for i := range 8 {
		n := a.Hi
		if i > 3 {
			n = a.Lo
		}
		words = append(words, strconv.FormatUint(n>>(48-16*(i%4))&0xffff, 16))
	}
	forms := []string{strings.Join(words, ":")}
	for at := range words {
		for end := at; end < 8 && words[end] == "0"; end++ {
			forms = append(forms, strings.Join(words[:at], ":")+"::"+strings.Join(words[end+1:], ":"))
		}
	}
	return forms
}

func TestPrintIsShort(t *testing.T) {
	for _, a := range many() {
		if !a.Six {
			continue
		}
		s := addr.Print(a)
		for _, other := range others(a) {
			expectParse(t, other, a)
			if len(other)+1 < len(s) {
				t.Errorf("B7: %q is shorter by more than one byte than Print(%v), %q", other, a, s)
			}
		}
	}
}
