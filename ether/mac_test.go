package ether_test

import (
	"fmt"
	"math"
	"net"
	"regexp"
	"strings"
	"testing"

	"crossway/addr"
	"crossway/api"
	"crossway/ether"
)

// six is the IPv6 address of two numbers.
func six(hi, lo uint64) api.Addr {
	return api.Addr{Six: true, Hi: hi, Lo: lo}
}

const all = math.MaxUint64

func expectGroup(t *testing.T, a api.Addr, want api.Mac) {
	t.Helper()
	if m := ether.Group(a); m != want {
		t.Errorf("E4: Group(%v) is %x, not %x", a, uint64(m), uint64(want))
	}
}

func TestGroupExamples(t *testing.T) {
	expectGroup(t, four(224, 0, 0, 251), 1101088686331)
	expectGroup(t, six(0xff02<<48, 1<<32|0xff000001), 56298414538753)
	for s, want := range map[string]api.Mac{
		"255.255.255.255": 1<<48 - 1,
		"224.0.0.0":       0x01005e000000,
		"224.0.0.1":       0x01005e000001,
		"224.127.255.255": 0x01005e7fffff,
		"224.128.0.0":     0x01005e000000,
		"224.255.255.255": 0x01005e7fffff,
		"225.0.0.0":       0x01005e000000,
		"232.129.2.3":     0x01005e010203,
		"239.255.255.255": 0x01005e7fffff,
		"ff00::":          0x333300000000,
		"ff02::1":         0x333300000001,
		"ff02::2":         0x333300000002,
		"ff02::1:ff00:1":  0x3333ff000001,
		"ff02::8000:0":    0x333380000000,
		"ff02::1:0:0":     0x333300000000,
		"ffff:ffff:ffff:ffff:ffff:ffff:ffff:ffff": 0x3333ffffffff,
		"ff00::ffff:0:0":    0x333300000000,
		"ff00::1:0102:0304": 0x333301020304,
	} {
		a, e := addr.Parse(s)
		if e != api.OK {
			t.Fatalf("no address: %q", s)
		}
		expectGroup(t, a, want)
	}
}

func TestGroupOfOthers(t *testing.T) {
	for _, a := range []api.Addr{
		{}, {Lo: 1}, four(0, 0, 0, 1), four(10, 0, 0, 1), four(127, 0, 0, 1), four(127, 255, 255, 255), four(169, 254, 0, 1), four(192, 168, 1, 255),
		four(223, 255, 255, 255), four(240, 0, 0, 0), four(240, 0, 0, 1), four(254, 255, 255, 255), four(255, 255, 255, 254), four(255, 0, 0, 0), four(255, 255, 255, 0),
		six(0, 0), six(0, 1), six(0, 2), six(0, 224<<24), six(0, 1<<32-1), six(0xfe80<<48, 1), six(0xfec0<<48, 1), six(0xfeff<<48, all), six(1<<64-1<<56-1, all), six(0x20010db8<<32, 1), six(0xff, all), six(0, all), six(0xff00, 0xff00<<48),
	} {
		expectGroup(t, a, 0)
	}
	for _, lo := range []uint64{224 << 24, 224<<24 | 251, 239<<24 | 1, 1<<32 - 1, 10 << 24, 0, 1} {
		for _, hi := range []uint64{1, 0xff, 1 << 63, 0xff02 << 48, 0xff << 56, all} {
			expectGroup(t, api.Addr{Hi: hi, Lo: lo}, 0)
		}
		for _, over := range []uint64{1 << 32, 1 << 33, 1 << 63, 224 << 56, 0xff << 56} {
			expectGroup(t, api.Addr{Lo: lo | over}, 0)
		}
	}
	expectGroup(t, api.Addr{Lo: all}, 0)
	expectGroup(t, api.Addr{Hi: all, Lo: all}, 0)
}

// TestGroupEachBit has each bit of an address of a group alone: the last 23, or 32,
// go into its link-layer address, the others do not.
func TestGroupEachBit(t *testing.T) {
	for i := range 28 {
		want := api.Mac(0x01005e000000)
		if i < 23 {
			want += 1 << i
		}
		expectGroup(t, api.Addr{Lo: 224<<24 | 1<<i}, want)
	}
	for i := range 64 {
		want := api.Mac(0x333300000000)
		if i < 32 {
			want += 1 << i
		}
		expectGroup(t, six(0xff<<56, 1<<i), want)
		expectGroup(t, six(0xff<<56|1<<i, 0), 0x333300000000)
	}
}

func TestGroupEachFirstByte(t *testing.T) {
	for n := range uint64(256) {
		var want api.Mac
		if n >= 224 && n <= 239 {
			want = 0x01005e010203
		}
		expectGroup(t, four(n, 129, 2, 3), want)
		want = 0
		if n == 255 {
			want = 0x333381010203
		}
		expectGroup(t, six(n<<56, 0x81010203), want)
	}
}

func TestGroupAsTheClasses(t *testing.T) {
	s := source(9)
	for range 200000 {
		a := api.Addr{Six: s.below(2) == 0, Hi: s.next() >> (s.below(2) * 64), Lo: s.next() >> (s.below(3) * 16)}
		if s.below(2) == 0 && !a.Six {
			a.Lo = a.Lo>>36 | 0xe<<28
			a.Hi = 0
		}
		if s.below(2) == 0 && a.Six {
			a.Hi |= 0xff << 56
		}
		switch class := addr.Class(a); {
		case class == api.ClassAll:
			expectGroup(t, a, 1<<48-1)
		case class != api.ClassMany:
			expectGroup(t, a, 0)
		case a.Six:
			expectGroup(t, a, api.Mac(0x3333<<32+a.Lo%(1<<32)))
		default:
			expectGroup(t, a, api.Mac(0x01005e<<24+a.Lo%(1<<23)))
		}
	}
}

// expectMac holds ParseMac of a text against a link-layer address.
func expectMac(t *testing.T, s string, want api.Mac) {
	t.Helper()
	if m, e := ether.ParseMac(s); m != want || e != api.OK {
		t.Errorf("E5: ParseMac(%q) is %x %d, not %x", start(s), uint64(m), e, uint64(want))
	}
}

// expectNoMac holds ParseMac of a text against the one error.
func expectNoMac(t *testing.T, s string) {
	t.Helper()
	if m, e := ether.ParseMac(s); m != 0 || e != api.ErrEtherForm {
		t.Errorf("E5: ParseMac(%q), of %d bytes, is %x %d, and it is no address", start(s), len(s), uint64(m), e)
	}
}

// macForm is what the chapter says of the text of a link-layer address.
var macForm = regexp.MustCompile(`\A[0-9a-fA-F]{2}(:[0-9a-fA-F]{2}){5}\z`)

// expectAsMacForm holds ParseMac of a text against the pattern, and against the
// library for the number.
func expectAsMacForm(t *testing.T, s string) {
	t.Helper()
	if !macForm.MatchString(s) {
		expectNoMac(t, s)
		return
	}
	b, err := net.ParseMAC(s)
	if err != nil {
		t.Fatalf("the pattern takes %q for an address, the library does not", s)
	}
	expectMac(t, s, mac(string(b)))
}

func TestParseMacExamples(t *testing.T) {
	for s, want := range map[string]api.Mac{
		"00:00:00:00:00:00": 0,
		"00:00:00:00:00:05": 5,
		"00:00:00:00:00:10": 16,
		"00:00:00:00:01:00": 256,
		"01:00:00:00:00:00": 1 << 40,
		"80:00:00:00:00:00": 1 << 47,
		"ff:ff:ff:ff:ff:ff": 1<<48 - 1,
		"FF:FF:FF:FF:FF:FF": 1<<48 - 1,
		"fF:Ff:fF:Ff:fF:Ff": 1<<48 - 1,
		"01:23:45:67:89:ab": 0x0123456789ab,
		"01:23:45:67:89:AB": 0x0123456789ab,
		"cd:ef:CD:EF:cD:Ef": 0xcdefcdefcdef,
		"Ab:00:5e:00:00:fB": 0xab005e0000fb,
		"01:00:5e:00:00:fb": 1101088686331,
		"33:33:ff:00:00:01": 56298414538753,
	} {
		expectMac(t, s, want)
	}
}

func TestParseMacWrong(t *testing.T) {
	for _, s := range []string{
		"", " ", "0", "00", ":", ":::::", "::", "::1", "5", "000000000005", "0000.0000.0005", "0000:0000:0005",
		"00:00:00:00:00", "00:00:00:00:00:", ":00:00:00:00:00", "00:00:00:00:00:00:", ":00:00:00:00:00:00", "00:00:00:00:00:00:00", "00:00:00:00:00:00:00:00",
		"0:00:00:00:00:00", "00:00:00:00:00:0", "0:0:0:0:0:0", "000:00:00:00:00:00", "00:00:00:00:00:000", "000:0:00:00:00:00", "0:000:00:00:00:00", "00:00:000:0:00:00",
		"00-00-00-00-00-00", "00.00.00.00.00.00", "00 00 00 00 00 00", "00:00-00:00:00:00", "00:00:00:00:00-00", "00;00:00:00:00:00", "00::00:00:00:00", "00:00:00:00::00", "0000:00:00:00:00:", ":0000:00:00:00:00", "00:00:00:00:0:000", "00::0:00:00:00:00", "00:00000000000000", "00000000000000000", ":::::::::::::::::",
		"0g:00:00:00:00:00", "g0:00:00:00:00:00", "00:00:00:00:00:0g", "00:00:00:00:00:0G", "00:00:00:00:00:G0", "00:00:00:00:00:0@", "00:00:00:00:00:0`", "00:00:00:00:00:0/", "00:00:00:00:00::0", "00:00:00:00:00:0:", "00:00:00:00:00:x0", "0x:00:00:00:00:00", "00:00:00:00:00:0z", "00:00:00:00:00:0O", "00:00:00:00:00:0l",
		"+0:00:00:00:00:00", "-0:00:00:00:00:00", "00:+1:00:00:00:00", "00:00:00:00:00:-1", "00:00:00:00:00:1+", "_0:00:00:00:00:00", "0_:00:00:00:00:00", "1_0:00:00:00:00:00", "00:00:00:00:00:.1", "1e1:0:00:00:00:00",
		" 00:00:00:00:00:00", "00:00:00:00:00:00 ", "0 :00:00:00:00:00", " 0:00:00:00:00:00", "00:00:00:00:00: 0", "00 :00:00:00:00:0", "00:00:00:00:00:0 ", " 0:00:00:00:00:0 ", "00: 0:00:00:00:00", "00:00:00:00:00:00\n", "\n00:00:00:00:00:00", "\t0:00:00:00:00:00", "00:00:00:00:00:0\n", "00:00:00:00:00:0\x00", "\x000:00:00:00:00:00", "00:00:00:00:00:00\x00",
		"0x00:00:00:00:00:00", "[00:00:00:00:00:00]", "00:00:00:00:00:00/48", "00:00:00:00:00:00:05",
	} {
		expectNoMac(t, s)
	}
}

// TestParseMacRunes has runes of several bytes, and bytes that are no rune, in texts
// of as many bytes, and of as many runes, as an address has.
func TestParseMacRunes(t *testing.T) {
	const good = "00:00:00:00:00:00"
	for _, r := range []string{"é", "ａ", "０", "９", "：", "∶", "٠", "٣", "²", "日", "Ａ", "😀", "\u0130", "\u212a", "\ufeff", "\u2028", "\u0430", "\xff", "\xfe", "\x80", "\xc3", "\xc3\x28", "\xed\xa0\x80", "\xf0\x9f", "\u00a0", "\ufffd"} {
		for at := range good {
			expectNoMac(t, good[:at]+r+good[at:])
			expectNoMac(t, good[:at]+r+good[at+1:])
			expectNoMac(t, good[:at]+r)
			if end := at + len(r); end <= len(good) {
				expectNoMac(t, good[:at]+r+good[end:])
			}
		}
		expectNoMac(t, strings.Repeat(r, 17))
		expectNoMac(t, strings.Repeat(r, 17)[:17])
		expectNoMac(t, strings.Repeat(r, 6))
		expectNoMac(t, good+r)
		expectNoMac(t, r+good)
	}
}

func TestParseMacLongTexts(t *testing.T) {
	const good = "00:00:00:00:00:00"
	for _, piece := range []string{"0", "00:", ":", " ", "f", "\x00", "\xff", "日", "-", good, good + ":", good + " "} {
		long := strings.Repeat(piece, 1<<22/len(piece))
		expectNoMac(t, long)
		expectNoMac(t, good+long)
		expectNoMac(t, long+good)
		expectNoMac(t, good+":"+long)
	}
	for n := range 300 {
		s := strings.Repeat("00:", n)
		expectNoMac(t, s)
		expectAsMacForm(t, s+"00")
		expectAsMacForm(t, strings.Repeat("0", n))
	}
}

// near are all texts that differ in one byte from s: another one, one more or one less.
func near(s string) []string {
	var found []string
	for at := range len(s) + 1 {
		for b := range 256 {
			found = append(found, s[:at]+string([]byte{byte(b)})+s[at:])
			if at < len(s) {
				found = append(found, s[:at]+string([]byte{byte(b)})+s[at+1:])
			}
		}
		if at < len(s) {
			found = append(found, s[:at]+s[at+1:])
		}
	}
	return found
}

func TestParseMacNearForms(t *testing.T) {
	for _, s := range []string{"", "0", "00:00:00:00:00", "00:00:00:00:00:00", "01:23:45:67:89:ab", "FE:DC:BA:98:76:54", "ff:FF:ff:FF:ff:FF", "00:00:00:00:00:00:"} {
		for _, x := range near(s) {
			expectAsMacForm(t, x)
		}
	}
	// Two bytes change places.
	const s = "01:23:45:67:89:ab"
	for i := range s {
		for j := range s {
			b := []byte(s)
			b[i], b[j] = b[j], b[i]
			expectAsMacForm(t, string(b))
		}
	}
}

func TestParseMacTextsLikeChance(t *testing.T) {
	s := source(10)
	pieces := []string{"00", "ff", "A5", ":", ":", ":", "7", "c", "", " ", "-", "g"}
	for range 200000 {
		var text strings.Builder
		for range s.below(14) {
			text.WriteString(pieces[s.below(len(pieces))])
		}
		expectAsMacForm(t, text.String())
		expectAsMacForm(t, s.text(s.below(24)))
	}
}

func TestPrintMac(t *testing.T) {
	for want, m := range map[string]api.Mac{
		"00:00:00:00:00:00": 0,
		"00:00:00:00:00:05": 5,
		"00:00:00:00:00:09": 9,
		"00:00:00:00:00:0a": 10,
		"00:00:00:00:00:0f": 15,
		"00:00:00:00:00:10": 16,
		"01:23:45:67:89:ab": 0x0123456789ab,
		"cd:ef:fe:dc:ba:98": 0xcdeffedcba98,
		"01:00:5e:00:00:fb": 1101088686331,
		"ff:ff:ff:ff:ff:fe": 1<<48 - 2,
		"ff:ff:ff:ff:ff:ff": 1<<48 - 1,
	} {
		if s := ether.PrintMac(m); s != want {
			t.Errorf("E5: PrintMac(%x) is %q, not %q", uint64(m), s, want)
		}
	}
	for _, m := range wrongMacs {
		if s := ether.PrintMac(m); s != "" {
			t.Errorf("E5: PrintMac(%x) is %q", uint64(m), s)
		}
	}
	for i := 48; i < 64; i++ {
		if s := ether.PrintMac(1 << i); s != "" {
			t.Errorf("E5: PrintMac(2^%d) is %q", i, s)
		}
	}
}

func TestParseMacUndoesPrintMac(t *testing.T) {
	s := source(11)
	macs := goodMacs
	for i := range 48 {
		macs = append(macs, 1<<i, 1<<i-1, 1<<48-1-1<<i)
	}
	for range 20000 {
		macs = append(macs, api.Mac(s.next()>>(16+s.below(48))))
	}
	for _, m := range macs {
		b := big(uint64(m), 6)
		want := fmt.Sprintf("%02x:%02x:%02x:%02x:%02x:%02x", b[0], b[1], b[2], b[3], b[4], b[5])
		text := ether.PrintMac(m)
		if text != want {
			t.Errorf("E5: PrintMac(%x) is %q, not %q", uint64(m), text, want)
		}
		expectMac(t, text, m)
		expectMac(t, strings.ToUpper(text), m)
		// What was returned may be written over.
		out := []byte(text)
		for i := range out {
			out[i] = 'X'
		}
		if again := ether.PrintMac(m); again != want {
			t.Errorf("E5: PrintMac(%x) is %q, and was %q", uint64(m), again, want)
		}
	}
}
