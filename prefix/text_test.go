package prefix_test

import (
	"strconv"
	"strings"
	"testing"

	"crossway/addr"
	"crossway/api"
	"crossway/prefix"
)

// start is the beginning of a text, to be told.
func start(s string) string {
	return s[:min(len(s), 60)]
}

// expectParse holds Parse of a text against a prefix.
func expectParse(t *testing.T, s string, want api.Prefix) {
	t.Helper()
	if p, e := prefix.Parse(s); p != want || e != api.OK {
		t.Errorf("D5: Parse(%q) is %v %d, not %v", start(s), p, e, want)
	}
}

// expectError holds Parse of a text against an error.
func expectError(t *testing.T, s string, want api.Errno) {
	t.Helper()
	if p, e := prefix.Parse(s); p != (api.Prefix{}) || e != want {
		t.Errorf("D5: Parse(%q) is %v %d, not the error %d", start(s), p, e, want)
	}
}

func TestParseExamples(t *testing.T) {
	for s, want := range map[string]api.Prefix{
		"10.0.0.0/8":         of(four(10, 0, 0, 0), 8),
		"0.0.0.0/0":          of(api.Addr{}, 0),
		"0.0.0.0/32":         of(api.Addr{}, 32),
		"0.0.0.0/10":         of(api.Addr{}, 10),
		"128.0.0.0/1":        of(four(128, 0, 0, 0), 1),
		"10.0.0.1/32":        of(four(10, 0, 0, 1), 32),
		"10.0.0.2/31":        of(four(10, 0, 0, 2), 31),
		"255.255.255.255/32": of(four(255, 255, 255, 255), 32),
		"::/0":               of(six(0, 0), 0),
		"0:0:0:0:0:0:0:0/0":  of(six(0, 0), 0),
		"::/128":             of(six(0, 0), 128),
		"::1/128":            of(six(0, 1), 128),
		"::2/127":            of(six(0, 2), 127),
		"::a00:0/104":        of(six(0, 10<<24), 104),
		"2001:DB8::/32":      of(six(0x20010db8<<32, 0), 32),
		"2001:0db8:0::/99":   of(six(0x20010db8<<32, 0), 99),
		"8000::/1":           of(six(1<<63, 0), 1),
		"0:0:0:2::/63":       of(six(2, 0), 63),
		"0:0:0:3::/64":       of(six(3, 0), 64),
		"0:0:0:3:8000::/65":  of(six(3, 1<<63), 65),
		"ffff:ffff:ffff:ffff:ffff:ffff:ffff:ffff/128": of(six(all, all), 128),
	} {
		expectParse(t, s, want)
	}
}

func TestParseWithoutSlash(t *testing.T) {
	for _, s := range []string{"", "10.0.0.0", "::", "::1", "8", "0", " ", "x", "10.0.0", ":::", "10.0.0.0\\8", "10.0.0.0 8", "10.0.0.0:8", "10.0.0.0/8"[:8], "10.0.0.0\u22158", "10.0.0.0\x008"} {
		expectError(t, s, api.ErrPrefixForm)
	}
}

// words are texts behind the `/` that are no number of bits of any prefix.
var words = []string{
	"", " ", "00", "000", "0000", "01", "08", "008", "08 ", "032", "0128", "0008", "00000000000000000008",
	"+8", "-8", "+0", "-0", "+", "-", "--8", " 8", "8 ", "8\n", "\t8", "8\x00", "\x008", "8,", "8.", "8.0", ".8", "0x8", "0b1", "0o7", "1e1", "1_0", "1_", "_1", "8a", "a8", "a", "x", "٨", "８", "²", "\xff",
	"129", "130", "199", "255", "256", "257", "264", "300", "999", "1000", "1128", "1280", "0032", "9999", "10000", "4294967296", "4294967304", "18446744073709551616", "18446744073709551624", "99999999999999999999999",
	"/", "//", "/0", "/8", "8/", "8/8", "0/0", "0/", "8/8/8", "128/", "::", "::/0", "10.0.0.0",
}

func TestParseWrongBits(t *testing.T) {
	for _, a := range []string{"0.0.0.0", "10.0.0.0", "10.0.0.1", "255.255.255.255", "::", "::1", "2001:db8::", "ffff:ffff:ffff:ffff:ffff:ffff:ffff:ffff"} {
		for _, word := range words {
			expectError(t, a+"/"+word, api.ErrPrefixForm)
		}
	}
}

// TestParseEachNumber has each number of bits behind addresses that have no bit of
// 1, or one as the last bit.
func TestParseEachNumber(t *testing.T) {
	for n := range 12000 {
		word := strconv.Itoa(n)
		for _, c := range []struct {
			text string
			a    api.Addr
			size int
		}{{"0.0.0.0", api.Addr{}, 32}, {"::", six(0, 0), 128}} {
			if n <= c.size {
				expectParse(t, c.text+"/"+word, of(c.a, n))
			} else {
				expectError(t, c.text+"/"+word, api.ErrPrefixForm)
			}
			for zeros := 1; zeros < 4; zeros++ {
				expectError(t, c.text+"/"+strings.Repeat("0", zeros)+word, api.ErrPrefixForm)
			}
			expectError(t, c.text+"/-"+word, api.ErrPrefixForm)
			expectError(t, c.text+"/+"+word, api.ErrPrefixForm)
		}
		if n != 32 {
			expectError(t, "0.0.0.1/"+word, api.ErrPrefixForm)
		}
		if n != 128 {
			expectError(t, "::1/"+word, api.ErrPrefixForm)
		}
	}
}

func TestParseBitsBehind(t *testing.T) {
	for _, s := range []string{
		"10.0.0.1/8", "10.0.0.0/6", "10.128.0.0/8", "10.0.0.1/31", "0.0.0.1/0", "128.0.0.0/0", "255.255.255.255/31", "255.255.255.255/0",
		"::1/0", "::1/127", "8000::/0", "0:0:0:1::/63", "0:0:0:3::/63", "::8000:0:0:0/64", "0:0:0:3:8000::/64", "0:0:0:3:c000::/65", "2001:db8::1/32", "2001:db8::/28", "ffff:ffff:ffff:ffff:ffff:ffff:ffff:ffff/127",
		"10.0.0.0/33", "10.0.0.0/64", "10.0.0.0/104", "10.0.0.0/128", "0.0.0.0/33", "0.0.0.0/128", "::/129", "::/999",
	} {
		expectError(t, s, api.ErrPrefixForm)
	}
	// Each text of each address and each number is valid or not as the bits are.
	for _, a := range edges {
		for n := range 140 {
			s := addr.Print(a) + "/" + strconv.Itoa(n)
			if p := of(a, n); isValid(p) {
				expectParse(t, s, p)
			} else {
				expectError(t, s, api.ErrPrefixForm)
			}
		}
	}
}

func TestParseErrorOfTheAddress(t *testing.T) {
	for _, a := range []string{"", " ", "8", "10.0.0", "10.0.0.", "10.0.0.0.", "10.0.0.0 ", " 10.0.0.0", "010.0.0.0", "10.0.0.256", "1:2:3:4:5:6:7", "1:2:3:4:5:6:7:8:9", ":::", "::1::", "1::00001", "::1.2.3.4", "::g", "[::]", "x", "::%0", "\x00"} {
		for _, word := range append([]string{"0", "8", "32", "128"}, words...) {
			expectError(t, a+"/"+word, api.ErrAddrForm)
		}
	}
	// The address is the text before the first `/`, and no more.
	for _, s := range []string{"/", "//", "///", "/8", "/10.0.0.0/8", "//8", "10.0.0/0.0/8", "::x/::/0", "8/10.0.0.0"} {
		expectError(t, s, api.ErrAddrForm)
	}
	for _, s := range []string{"10.0.0.0//8", "10.0.0.0/8/", "10.0.0.0/8/8", "::/0/0", "::///", "::/::/0", "::/", "::/x/0", "10.0.0.0/ /8"} {
		expectError(t, s, api.ErrPrefixForm)
	}
}

func TestParseLongTexts(t *testing.T) {
	const n = 1 << 20
	for _, piece := range []string{"0", "1", "9", "8", " ", "/8", ":", ".", "x", "\x00", "\xff", "-", "+"} {
		long := strings.Repeat(piece, n/len(piece))
		expectError(t, "10.0.0.0/"+long, api.ErrPrefixForm)
		expectError(t, "::/0"+long, api.ErrPrefixForm)
		expectError(t, "::/8"+long, api.ErrPrefixForm)
		expectError(t, "10.0.0.0/"+long+"8", api.ErrPrefixForm)
		expectError(t, long+"/8", api.ErrAddrForm)
		if !strings.Contains(piece, "/") {
			expectError(t, long, api.ErrPrefixForm)
			expectError(t, "10.0.0.0"+long, api.ErrPrefixForm)
		}
	}
	slashes := strings.Repeat("/", n)
	expectError(t, slashes, api.ErrAddrForm)
	expectError(t, "::"+slashes, api.ErrPrefixForm)
	expectError(t, "::/0"+slashes, api.ErrPrefixForm)
	expectError(t, strings.Repeat("0", n)+".0.0.0/8", api.ErrAddrForm)
}

// near are all texts that differ in one byte from s: another one, one more or one less.
func near(s string) []string {
	var found []string
	for at := range len(s) + 1 {
		for b := range 256 {
			found = append(found, s[:at]+string([]byte{byte(b)})+s[at:])
			if at < len(s) {
				found = append(found, s[:at]+string([]byte{byte(b)})+s[at+1:])
			}
		}
		if at < len(s) {
			found = append(found, s[:at]+s[at+1:])
		}
	}
	return found
}

// expectAsForm holds Parse of a text against what the chapter says of it.
func expectAsForm(t *testing.T, s string) {
	t.Helper()
	at := strings.IndexByte(s, '/')
	if at < 0 {
		expectError(t, s, api.ErrPrefixForm)
		return
	}
	a, e := addr.Parse(s[:at])
	if e != api.OK {
		expectError(t, s, api.ErrAddrForm)
		return
	}
	for n := range 129 {
		if p := of(a, n); s[at+1:] == strconv.Itoa(n) && isValid(p) {
			expectParse(t, s, p)
			return
		}
	}
	expectError(t, s, api.ErrPrefixForm)
}

func TestParseNearForms(t *testing.T) {
	for _, s := range []string{"", "/", "0.0.0.0/0", "0.0.0.0/10", "10.0.0.0/8", "192.168.8.0/21", "::/0", "::/12", "::/118", "::1/128", "a:b::/32", "1:2:3:4:5:6:7:8/128"} {
		for _, x := range near(s) {
			expectAsForm(t, x)
		}
	}
}

func TestParseTextsLikeChance(t *testing.T) {
	s := source(17)
	pieces := []string{"/", "/", "/", "0.0.0.0", "10.0.0.0", "::", "::1", "1::", "0", "8", "1", "2", "32", "128", "64", "", " ", "-", "+", "."}
	for range 200000 {
		var text strings.Builder
		for range s.below(6) {
			text.WriteString(pieces[s.below(len(pieces))])
		}
		expectAsForm(t, text.String())
	}
}

func TestPrintExamples(t *testing.T) {
	for want, p := range map[string]api.Prefix{
		"0.0.0.0/0":     {},
		"10.0.0.0/8":    of(four(10, 0, 0, 0), 8),
		"10.0.0.0/32":   of(four(10, 0, 0, 0), 32),
		"128.0.0.0/1":   of(four(128, 0, 0, 0), 1),
		"::/0":          of(six(0, 0), 0),
		"::/128":        of(six(0, 0), 128),
		"::1/128":       of(six(0, 1), 128),
		"2001:db8::/32": of(six(0x20010db8<<32, 0), 32),
		"0:0:0:3::/64":  of(six(3, 0), 64),
		"::a00:0/104":   of(six(0, 10<<24), 104),
		"ffff:ffff:ffff:ffff:ffff:ffff:ffff:ffff/128": of(six(all, all), 128),
	} {
		if got := prefix.Print(p); got != want {
			t.Errorf("D5: Print(%v) is %q, not %q", p, got, want)
		}
	}
}

func TestPrintOfWrongPrefixes(t *testing.T) {
	for _, p := range wrong() {
		if got := prefix.Print(p); got != "" {
			t.Errorf("D5: Print(%v) is %q", p, got)
		}
	}
}

func TestParseUndoesPrint(t *testing.T) {
	texts := map[string]api.Prefix{}
	for _, p := range valid() {
		s := prefix.Print(p)
		if want := addr.Print(p.Addr) + "/" + strconv.Itoa(p.Bits); s != want {
			t.Errorf("D5: Print(%v) is %q, not %q", p, s, want)
		}
		if q, e := prefix.Parse(s); q != p || e != api.OK {
			t.Errorf("D6: Parse of Print(%v), %q, is %v %d", p, s, q, e)
		}
		if q, is := texts[s]; is && q != p {
			t.Errorf("D6: %v and %v are both printed %q", p, q, s)
		}
		texts[s] = p
	}
}

// TestParseKeepsNoText writes over the bytes that a text was made of.
func TestParseKeepsNoText(t *testing.T) {
	b := []byte("10.0.0.0/8 and more")
	p, e := prefix.Parse(string(b[:10]))
	for i := range b {
		b[i] = '1'
	}
	if p != of(four(10, 0, 0, 0), 8) || e != api.OK || prefix.Print(p) != "10.0.0.0/8" {
		t.Errorf("D5: a prefix changes with the bytes that it was made of: %v %d", p, e)
	}
}
