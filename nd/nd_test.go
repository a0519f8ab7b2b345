package nd_test

import (
	"math"
	"slices"
	"testing"

	"crossway/api"
	"crossway/nd"
)

// source tells numbers that look like chance, the same ones in each run.
type source uint64

func (s *source) next() uint64 {
	*s = *s*6364136223846793005 + 1442695040888963407
	return uint64(*s ^ *s>>29)
}

func (s *source) below(n int) int { return int(s.next() >> 11 % uint64(n)) }

// text is so many bytes that look like chance.
func (s *source) text(n int) string {
	b := make([]byte, n)
	for i := range b {
		b[i] = byte(s.next() >> 20)
	}
	return string(b)
}

// start is the beginning of a text, to be told.
func start(s string) string {
	return s[:min(len(s), 60)]
}

// brief is a message with the beginning of its Data, to be told.
func brief(m api.Icmp) api.Icmp {
	m.Data = start(m.Data)
	return m
}

// big is a number in so many bytes, the most significant one first.
func big(n uint64, width int) string {
	b := make([]byte, width)
	for i := range b {
		b[i] = byte(n >> (8 * (width - 1 - i)))
	}
	return string(b)
}

// six is an IPv6 address.
func six(hi, lo uint64) api.Addr {
	return api.Addr{Six: true, Hi: hi, Lo: lo}
}

const (
	all    = math.MaxUint64
	maxMac = 1<<48 - 1
)

// linkOne is the Target of the chapter's examples, mixed one whose bytes all differ.
var (
	linkOne = six(0xfe80<<48, 1)
	mixed   = six(0x20010db801020304, 0x05060708090a0b0c)
)

// goodTargets are addresses that a valid message may have: of the classes Loop, Link
// and Plain, and those that stand beside the other ones.
func goodTargets() []api.Addr {
	return []api.Addr{
		linkOne, mixed, six(0, 1), six(0, 2), six(1, 0), six(0, 1<<63), six(1<<63, 0), six(0, all), six(1<<48, 0),
		six(0xfeff<<48, 0), six(0xfeffffffffffffff, all), six(0xfe80<<48, 0), six(0xfebfffffffffffff, all), six(0xfec0<<48, 0),
		six(0, 0xffff<<32|0xe0000001), six(0, 0xffff<<32), six(0, 1<<32), six(0, 0xe0000001), six(0x00ff<<48, 0), six(0x7f02<<48, 1),
	}
}

// vainTargets are IPv6 addresses of the classes Many and Nowhere.
func vainTargets() []api.Addr {
	return []api.Addr{
		six(0, 0), six(0xff00<<48, 0), six(0xff00<<48, 1), six(0xff02<<48, 1), six(0xff02<<48, 0x1ff000001),
		six(0xff0e<<48, 5), six(0xff7f<<48, 0), six(0xff80<<48, 0), six(0xfff0<<48, 0), six(all, all),
	}
}

// oddTargets are addresses without Six, valid and not.
func oddTargets() []api.Addr {
	return []api.Addr{
		{}, {Lo: 1}, {Lo: 10<<24 | 1}, {Lo: 127<<24 | 1}, {Lo: 169<<24 | 254<<16 | 1}, {Lo: 0xe0000001}, {Lo: 1<<32 - 1},
		{Lo: 1 << 32}, {Lo: all}, {Hi: 1}, {Hi: 0xfe80 << 48, Lo: 1}, {Hi: 0x20010db8 << 32, Lo: 1}, {Hi: 0xff02 << 48, Lo: 1}, {Hi: all, Lo: all},
	}
}

// Link-layer addresses, and numbers that are none.
var (
	goodMacs = []api.Mac{0, 1, 5, 255, 256, 0x00005e000005, 0x010203040506, 1 << 40, 1 << 47, maxMac - 1, maxMac}
	badMacs  = []api.Mac{1 << 48, 1<<48 + 1, 1<<48 + 5, 1 << 49, 1 << 56, 1 << 63, all - 1, all}
)

// flags are the eight settings of what an advertisement says.
type flags struct{ router, answer, over bool }

func allFlags() []flags {
	var found []flags
	for n := range 8 {
		found = append(found, flags{n&4 != 0, n&2 != 0, n&1 != 0})
	}
	return found
}

// rest is the Rest of an advertisement with some flags.
func (f flags) rest() int {
	n := 0
	for _, x := range []struct {
		is     bool
		number int
	}{{f.router, 2147483648}, {f.answer, 1073741824}, {f.over, 536870912}} {
		if x.is {
			n += x.number
		}
	}
	return n
}

// tell is the advertisement that says what a solicitation says, with some flags.
func tell(x api.Solicit, f flags) api.Advert {
	return api.Advert{Target: x.Target, Router: f.router, Answer: f.answer, Over: f.over, HasMac: x.HasMac, Mac: x.Mac}
}

// plainData is the Data of a valid message whose option has a Kind.
func plainData(x api.Solicit, option byte) string {
	data := big(x.Target.Hi, 8) + big(x.Target.Lo, 8)
	if x.HasMac {
		data += string([]byte{option, 1}) + big(uint64(x.Mac), 6)
	}
	return data
}

// plainAsk is the message of a valid solicitation, plainTell that of an advertisement.
func plainAsk(x api.Solicit) api.Icmp {
	return api.Icmp{Six: true, Kind: 135, Data: plainData(x, 1)}
}

func plainTell(x api.Solicit, f flags) api.Icmp {
	return api.Icmp{Six: true, Kind: 136, Rest: f.rest(), Data: plainData(x, 2)}
}

func expectMessages(t *testing.T, x api.Solicit) {
	t.Helper()
	if m, e := nd.Ask(x); m != plainAsk(x) || e != api.OK {
		t.Errorf("I1: Ask of %#v is %#v %d, not %#v", x, m, e, plainAsk(x))
	}
	for _, f := range allFlags() {
		if m, e := nd.Tell(tell(x, f)); m != plainTell(x, f) || e != api.OK {
			t.Errorf("I1: Tell of %#v is %#v %d, not %#v", tell(x, f), m, e, plainTell(x, f))
		}
	}
}

func expectNoMessages(t *testing.T, x api.Solicit) {
	t.Helper()
	if m, e := nd.Ask(x); m != (api.Icmp{}) || e != api.ErrNdForm {
		t.Errorf("I1: Ask of %#v is %#v %d, not ErrNdForm", x, m, e)
	}
	for _, f := range allFlags() {
		if m, e := nd.Tell(tell(x, f)); m != (api.Icmp{}) || e != api.ErrNdForm {
			t.Errorf("I1: Tell of %#v is %#v %d, not ErrNdForm", tell(x, f), m, e)
		}
	}
}

func TestAskExamples(t *testing.T) {
	const target = "\xfe\x80\x00\x00\x00\x00\x00\x00\x00\x00\x00\x00\x00\x00\x00\x01"
	for _, x := range []struct {
		x    api.Solicit
		data string
	}{
		{api.Solicit{Target: linkOne, HasMac: true, Mac: 5}, target + "\x01\x01\x00\x00\x00\x00\x00\x05"},
		{api.Solicit{Target: linkOne}, target},
		{api.Solicit{Target: linkOne, HasMac: true}, target + "\x01\x01\x00\x00\x00\x00\x00\x00"},
		{api.Solicit{Target: mixed, HasMac: true, Mac: 0x1a2b3c4d5e6f}, "\x20\x01\x0d\xb8\x01\x02\x03\x04\x05\x06\x07\x08\x09\x0a\x0b\x0c\x01\x01\x1a\x2b\x3c\x4d\x5e\x6f"},
	} {
		want := api.Icmp{Six: true, Kind: 135, Data: x.data}
		if m, e := nd.Ask(x.x); m != want || e != api.OK {
			t.Errorf("I1: Ask of %#v is %#v %d, not %#v", x.x, m, e, want)
		}
	}
	expectNoMessages(t, api.Solicit{Target: six(0xff02<<48, 1)})
}

func TestTellExamples(t *testing.T) {
	const target = "\xfe\x80\x00\x00\x00\x00\x00\x00\x00\x00\x00\x00\x00\x00\x00\x01"
	for _, x := range []struct {
		x    api.Advert
		rest int
		data string
	}{
		{api.Advert{Target: linkOne, Router: true, Over: true}, 2684354560, target},
		{api.Advert{Target: linkOne}, 0, target},
		{api.Advert{Target: linkOne, Router: true}, 2147483648, target},
		{api.Advert{Target: linkOne, Answer: true}, 1073741824, target},
		{api.Advert{Target: linkOne, Over: true}, 536870912, target},
		{api.Advert{Target: linkOne, Router: true, Answer: true, Over: true, HasMac: true, Mac: 5}, 3758096384, target + "\x02\x01\x00\x00\x00\x00\x00\x05"},
	} {
		want := api.Icmp{Six: true, Kind: 136, Rest: x.rest, Data: x.data}
		if m, e := nd.Tell(x.x); m != want || e != api.OK {
			t.Errorf("I1: Tell of %#v is %#v %d, not %#v", x.x, m, e, want)
		}
	}
}

func TestMessagesOfEachTarget(t *testing.T) {
	for _, a := range goodTargets() {
		expectMessages(t, api.Solicit{Target: a})
		for _, mac := range goodMacs {
			expectMessages(t, api.Solicit{Target: a, HasMac: true, Mac: mac})
		}
	}
	for _, a := range slices.Concat(vainTargets(), oddTargets()) {
		expectNoMessages(t, api.Solicit{Target: a})
		expectNoMessages(t, api.Solicit{Target: a, HasMac: true, Mac: 5})
	}
	// Each first byte: 255 alone is that of the addresses of many.
	for n := range 256 {
		for _, x := range []api.Solicit{{Target: six(uint64(n)<<56, 1)}, {Target: six(uint64(n)<<56|1<<55, 0), HasMac: true, Mac: 9}} {
			if n == 255 {
				expectNoMessages(t, x)
			} else {
				expectMessages(t, x)
			}
		}
	}
	// Each single bit: an address with one is not nowhere.
	for n := range 64 {
		expectMessages(t, api.Solicit{Target: six(1<<n, 0)})
		expectMessages(t, api.Solicit{Target: six(0, 1<<n), HasMac: true, Mac: 1})
	}
}

func TestMessagesOfEachMac(t *testing.T) {
	for _, a := range []api.Addr{linkOne, mixed} {
		for _, mac := range goodMacs {
			expectMessages(t, api.Solicit{Target: a, HasMac: true, Mac: mac})
			if mac > 0 {
				expectNoMessages(t, api.Solicit{Target: a, Mac: mac})
			}
		}
		for _, mac := range badMacs {
			expectNoMessages(t, api.Solicit{Target: a, HasMac: true, Mac: mac})
			expectNoMessages(t, api.Solicit{Target: a, Mac: mac})
		}
		for n := range 64 {
			x := api.Solicit{Target: a, HasMac: true, Mac: 1 << n}
			if n < 48 {
				expectMessages(t, x)
			} else {
				expectNoMessages(t, x)
			}
			x.HasMac = false
			expectNoMessages(t, x)
		}
	}
}

// TestMessagesWithFaults has several faults at once: their error is the same one.
func TestMessagesWithFaults(t *testing.T) {
	for _, a := range slices.Concat(vainTargets(), oddTargets()) {
		for _, mac := range badMacs {
			expectNoMessages(t, api.Solicit{Target: a, HasMac: true, Mac: mac})
			expectNoMessages(t, api.Solicit{Target: a, Mac: mac})
		}
		expectNoMessages(t, api.Solicit{Target: a, Mac: 5})
	}
}

// isValid is whether a solicitation is valid.
func isValid(x api.Solicit) bool {
	a := x.Target
	if !a.Six || a.Hi == 0 && a.Lo == 0 || a.Hi>>56 == 255 {
		return false
	}
	if !x.HasMac {
		return x.Mac == 0
	}
	return x.Mac <= maxMac
}

// solicit is a solicitation that looks like chance, often one that is not valid.
func (s *source) solicit() api.Solicit {
	x := api.Solicit{Target: api.Addr{Six: s.below(10) > 0, Hi: s.next(), Lo: s.next()}, HasMac: s.below(2) == 0}
	switch s.below(8) {
	case 0:
		x.Target.Hi |= 255 << 56
	case 1:
		x.Target.Hi, x.Target.Lo = 0, uint64(s.below(2))
	case 2:
		x.Target.Hi = 0xfe80 << 48
	}
	if x.HasMac || s.below(8) == 0 {
		x.Mac = api.Mac(s.next() >> (16 - s.below(10)/9))
	}
	return x
}

func TestMessagesOfAnything(t *testing.T) {
	s := source(1)
	good := 0
	for range 50000 {
		x := s.solicit()
		if !isValid(x) {
			expectNoMessages(t, x)
			continue
		}
		good++
		expectMessages(t, x)
	}
	if good < 10000 || good > 45000 {
		t.Errorf("%d inputs were valid", good)
	}
}
