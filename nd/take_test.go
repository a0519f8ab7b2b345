package nd_test

import (
	"math"
	"slices"
	"testing"

	"crossway/api"
	"crossway/nd"
)

// side is one of the two messages, as a test looks at it: its Kind, that of its option,
// its name, and what takes it, told as a solicitation and flags.
type side struct {
	kind, option int
	name         string
	take         func(m api.Icmp) (api.Solicit, flags, api.Errno)
}

func sides() []side {
	return []side{
		{135, 1, "TakeAsk", func(m api.Icmp) (api.Solicit, flags, api.Errno) {
			x, e := nd.TakeAsk(m)
			return x, flags{}, e
		}},
		{136, 2, "TakeTell", func(m api.Icmp) (api.Solicit, flags, api.Errno) {
			x, e := nd.TakeTell(m)
			return api.Solicit{Target: x.Target, HasMac: x.HasMac, Mac: x.Mac}, flags{x.Router, x.Answer, x.Over}, e
		}},
	}
}

// message is one of this side, for a Target, with some bytes as its options.
func (x side) message(a api.Addr, options string) api.Icmp {
	return api.Icmp{Six: true, Kind: x.kind, Data: big(a.Hi, 8) + big(a.Lo, 8) + options}
}

// told are the flags that a Rest of this side says.
func (x side) told(rest int) flags {
	if x.kind == 135 {
		return flags{}
	}
	n := uint64(rest) % 4294967296
	return flags{n/2147483648 == 1, n/1073741824%2 == 1, n/536870912%2 == 1}
}

func (x side) expect(t *testing.T, m api.Icmp, want api.Solicit) {
	t.Helper()
	kept := m
	got, f, e := x.take(m)
	if got != want || f != x.told(m.Rest) || e != api.OK {
		t.Errorf("I3: %s of %#v is %#v %v %d, not %#v %v", x.name, brief(m), got, f, e, want, x.told(m.Rest))
	}
	if m != kept {
		t.Errorf("R3: the message %#v has become %#v", brief(kept), brief(m))
	}
}

func (x side) expectError(t *testing.T, m api.Icmp, want api.Errno) {
	t.Helper()
	if got, f, e := x.take(m); got != (api.Solicit{}) || f != (flags{}) || e != want {
		t.Errorf("I3: %s of %#v, %d bytes of Data, is %#v %v %d, not %d", x.name, brief(m), len(m.Data), got, f, e, want)
	}
}

// plain takes a message in another way.
func (x side) plain(m api.Icmp) (api.Solicit, api.Errno) {
	if !m.Six || m.Kind != x.kind || m.Code != 0 {
		return api.Solicit{}, api.ErrNdForm
	}
	if len(m.Data) < 16 {
		return api.Solicit{}, api.ErrNdShort
	}
	if m.Data[0] == 255 || m.Data[:16] == zeros(16) {
		return api.Solicit{}, api.ErrNdForm
	}
	l, e := plainOptions(m.Data[16:])
	if e != api.OK {
		return api.Solicit{}, e
	}
	found := api.Solicit{Target: six(numberOf(m.Data[:8]), numberOf(m.Data[8:16]))}
	for _, o := range slices.Backward(l) {
		if o.Kind == x.option && len(o.Data) == 6 {
			found.HasMac, found.Mac = true, api.Mac(numberOf(o.Data))
		}
	}
	return found, api.OK
}

// numberOf is the number of some bytes, the most significant one first.
func numberOf(s string) uint64 {
	n := uint64(0)
	for i := range len(s) {
		n = n*256 + uint64(s[i])
	}
	return n
}

// expectAsPlain expects what the other way of taking answers.
func (x side) expectAsPlain(t *testing.T, m api.Icmp) api.Errno {
	t.Helper()
	want, e := x.plain(m)
	if e == api.OK {
		x.expect(t, m, want)
	} else {
		x.expectError(t, m, e)
	}
	return e
}

func TestTakeAskExamples(t *testing.T) {
	want := api.Solicit{Target: linkOne, HasMac: true, Mac: 5}
	m := api.Icmp{Six: true, Kind: 135, Data: "\xfe\x80\x00\x00\x00\x00\x00\x00\x00\x00\x00\x00\x00\x00\x00\x01\x01\x01\x00\x00\x00\x00\x00\x05"}
	if x, e := nd.TakeAsk(m); x != want || e != api.OK {
		t.Errorf("I3: TakeAsk of %#v is %#v %d, not %#v", m, x, e, want)
	}
	m.Data = m.Data[:16]
	if x, e := nd.TakeAsk(m); x != (api.Solicit{Target: linkOne}) || e != api.OK {
		t.Errorf("I3: TakeAsk of %#v is %#v %d", m, x, e)
	}
}

func TestTakeTellExamples(t *testing.T) {
	want := api.Advert{Target: linkOne, Router: true, Over: true}
	m := api.Icmp{Six: true, Kind: 136, Rest: 2684354560, Data: "\xfe\x80\x00\x00\x00\x00\x00\x00\x00\x00\x00\x00\x00\x00\x00\x01"}
	if x, e := nd.TakeTell(m); x != want || e != api.OK {
		t.Errorf("I3: TakeTell of %#v is %#v %d, not %#v", m, x, e, want)
	}
	m.Rest, m.Data = 1073741824, m.Data+"\x02\x01\x1a\x2b\x3c\x4d\x5e\x6f"
	want = api.Advert{Target: linkOne, Answer: true, HasMac: true, Mac: 0x1a2b3c4d5e6f}
	if x, e := nd.TakeTell(m); x != want || e != api.OK {
		t.Errorf("I3: TakeTell of %#v is %#v %d, not %#v", m, x, e, want)
	}
}

// TestTakeEachKind has each other Kind and Code, and messages without Six.
func TestTakeEachKind(t *testing.T) {
	odd := []int{math.MinInt, math.MinInt + 135, math.MinInt + 136, -136, -135, -121, -120, -256, -1, 256, 257, 391, 392, 512, 65536, 65671, 65672, 1 << 32, 1<<32 + 135, 1<<32 + 136, math.MaxInt}
	for n := range 256 {
		odd = append(odd, n)
	}
	for _, x := range sides() {
		fine := x.message(linkOne, option(x.option, "abcdef"))
		for _, n := range odd {
			m := fine
			m.Kind = n
			x.expectAsPlain(t, m)
			m.Six = false
			x.expectError(t, m, api.ErrNdForm)
			m = fine
			m.Code = n
			x.expectAsPlain(t, m)
			m.Six = false
			x.expectError(t, m, api.ErrNdForm)
		}
		x.expect(t, fine, api.Solicit{Target: linkOne, HasMac: true, Mac: 0x616263646566})
	}
}

// TestTakeEachLength has Data of each length, of a solicitation and beyond it.
func TestTakeEachLength(t *testing.T) {
	for _, x := range sides() {
		for _, behind := range []string{zeros(40), option(x.option, "abcdef") + option(9, "fedcba") + option(9, zeros(14))} {
			m := x.message(mixed, behind)
			whole := m.Data
			for n := range len(whole) + 1 {
				m.Data = whole[:n]
				if e := x.expectAsPlain(t, m); n < 16 && e != api.ErrNdShort {
					t.Errorf("%d bytes: %d", n, e)
				}
			}
			// Of a Data that is too short it does not count what address it begins as.
			for n := range 16 {
				for _, fill := range []string{"\x00", "\xff"} {
					m.Data = (fill + zeros(16))[:n]
					x.expectError(t, m, api.ErrNdShort)
				}
			}
		}
		for _, n := range []int{64984, 65000, 65008, 1 << 17} {
			x.expectError(t, x.message(mixed, zeros(n)), api.ErrNdForm)
			x.expect(t, x.message(mixed, laid(slices.Repeat([]api.Option{{Kind: 9, Data: "abcdef"}}, n/8))), api.Solicit{Target: mixed})
		}
	}
}

func TestTakeEachTarget(t *testing.T) {
	for _, x := range sides() {
		for _, options := range []string{"", option(9, "abcdef"), "\x01", "\x01\x00", option(x.option, "abcdef") + "\x09\x02"} {
			for _, a := range goodTargets() {
				x.expectAsPlain(t, x.message(a, options))
			}
			for _, a := range vainTargets() {
				x.expectError(t, x.message(a, options), api.ErrNdForm)
			}
			for n := range 256 {
				x.expectAsPlain(t, x.message(six(uint64(n)<<56, 0), options))
				x.expectAsPlain(t, x.message(six(uint64(n)<<56|0xff<<48, 1), options))
			}
			for n := range 64 {
				x.expectAsPlain(t, x.message(six(1<<n, 0), options))
				x.expectAsPlain(t, x.message(six(0, 1<<n), options))
			}
		}
		for _, a := range goodTargets() {
			x.expect(t, x.message(a, ""), api.Solicit{Target: a})
			x.expect(t, x.message(a, option(x.option, zeros(6))), api.Solicit{Target: a, HasMac: true})
		}
	}
}

// TestTakeFaultyOptions has faults among the options, behind fine ones too.
func TestTakeFaultyOptions(t *testing.T) {
	for _, x := range sides() {
		for _, ahead := range []string{"", option(x.option, "abcdef"), option(9, zeros(14)) + option(x.option, "abcdef")} {
			for _, fault := range []struct {
				s    string
				want api.Errno
			}{
				{"\x01", api.ErrNdShort}, {"\x02", api.ErrNdShort}, {"\x00", api.ErrNdShort},
				{"\x01\x00", api.ErrNdForm}, {"\x02\x00", api.ErrNdForm}, {"\x00\x00", api.ErrNdForm}, {zeros(8), api.ErrNdForm},
				{"\x01\x01abcde", api.ErrNdShort}, {"\x02\x01abcde", api.ErrNdShort}, {"\x09\x02abcdef", api.ErrNdShort}, {"\x09\xff" + zeros(2037), api.ErrNdShort},
				{"\x09\x00\x09", api.ErrNdForm}, {"\x09\x02\x09\x00", api.ErrNdShort},
			} {
				x.expectError(t, x.message(linkOne, ahead+fault.s), fault.want)
				x.expectError(t, x.message(six(0, 0), ahead+fault.s), api.ErrNdForm)
				m := x.message(linkOne, ahead+fault.s)
				m.Code = 1
				x.expectError(t, m, api.ErrNdForm)
			}
		}
	}
}

// TestTakeSeveralFaults has messages whose faults have different errors: the one that
// the promise names first counts.
func TestTakeSeveralFaults(t *testing.T) {
	for _, x := range sides() {
		for _, data := range []string{"", zeros(15), zeros(16), zeros(17), "\xff" + zeros(16), big(1, 16) + "\x01"} {
			for _, m := range []api.Icmp{
				{Kind: x.kind, Data: data},
				{Six: true, Kind: 271 - x.kind, Data: data},
				{Six: true, Kind: x.kind, Code: 1, Data: data},
				{Six: true, Kind: x.kind, Code: -1, Rest: -1, Data: data},
				{Rest: 1 << 32, Data: data},
			} {
				x.expectError(t, m, api.ErrNdForm)
			}
		}
		x.expectError(t, x.message(six(0, 0), "\x01"), api.ErrNdForm)
		x.expectError(t, x.message(six(0xff02<<48, 1), "\x01\x02"), api.ErrNdForm)
	}
}

// TestTakeFirstMac has several options of the Kind that is looked for, of other Kinds,
// and with other lengths.
func TestTakeFirstMac(t *testing.T) {
	const first, second = "\x00\x00\x00\x00\x00\x05", "\x00\x00\x00\x00\x00\x07"
	five, seven := api.Solicit{Target: linkOne, HasMac: true, Mac: 5}, api.Solicit{Target: linkOne, HasMac: true, Mac: 7}
	none := api.Solicit{Target: linkOne}
	for _, x := range sides() {
		is, other, long := x.option, 3-x.option, option(x.option, zeros(13)+"\x09")
		for _, y := range []struct {
			options string
			want    api.Solicit
		}{
			{"", none},
			{option(is, first), five},
			{option(is, first) + option(is, second), five},
			{option(is, second) + option(is, first), seven},
			{option(is, zeros(6)) + option(is, first), api.Solicit{Target: linkOne, HasMac: true}},
			{long, none},
			{long + option(is, first) + option(is, second), five},
			{option(is, first) + long, five},
			{option(is, zeros(2038)) + long + option(is, second) + option(is, first), seven},
			{option(other, first), none},
			{option(other, first) + option(is, second), seven},
			{option(is, first) + option(other, second), five},
			{option(other, first) + option(other, second), none},
			{option(0, first) + option(3, second) + option(255, first) + option(is+128, first), none},
			{option(0, second) + option(255, zeros(14)) + option(is, first) + option(14, second), five},
		} {
			x.expect(t, x.message(linkOne, y.options), y.want)
		}
		for n := range 256 {
			m := x.message(linkOne, option(n, first))
			if n == is {
				x.expect(t, m, five)
			} else {
				x.expect(t, m, none)
			}
			x.expectAsPlain(t, x.message(linkOne, option(n, first)+option(is, second)))
		}
	}
}

func TestTakeEachMac(t *testing.T) {
	for _, x := range sides() {
		for _, mac := range goodMacs {
			x.expect(t, x.message(mixed, option(x.option, big(uint64(mac), 6))), api.Solicit{Target: mixed, HasMac: true, Mac: mac})
		}
		for n := range 48 {
			x.expect(t, x.message(mixed, option(x.option, big(1<<n, 6))), api.Solicit{Target: mixed, HasMac: true, Mac: 1 << n})
		}
	}
}

// TestTakeEachRest has each bit of Rest alone, and numbers that no message has: the
// bits that say nothing are ignored.
func TestTakeEachRest(t *testing.T) {
	rests := []int{0, 1, 255, 1<<29 - 1, 1<<32 - 1, 1<<31 - 1, 0x0fffffff, 0xe0000000, 0x1fffffff, math.MaxInt, math.MinInt, -1, -1 << 29, -1 << 32, 1<<32 + 1<<31, -2147483649, 2684354565}
	for n := range 64 {
		rests = append(rests, 1<<n, ^(1 << n), 1<<n|2147483648, 1<<n|1073741824, 1<<n|536870912)
	}
	for _, x := range sides() {
		for _, rest := range rests {
			m := x.message(linkOne, option(x.option, "abcdef"))
			m.Rest = rest
			x.expect(t, m, api.Solicit{Target: linkOne, HasMac: true, Mac: 0x616263646566})
		}
	}
	m := api.Icmp{Six: true, Kind: 136, Data: big(mixed.Hi, 8) + big(mixed.Lo, 8)}
	for _, f := range allFlags() {
		for _, more := range []int{0, 1, 0x1fffffff, 1 << 32, math.MinInt} {
			m.Rest = f.rest() + more
			want := api.Advert{Target: mixed, Router: f.router, Answer: f.answer, Over: f.over}
			if x, e := nd.TakeTell(m); x != want || e != api.OK {
				t.Errorf("I3: TakeTell of %#v is %#v %d, not %#v", m, x, e, want)
			}
		}
	}
}

// expectUndone expects that what is laid of a valid message is taken as the same one,
// with some options behind, and not by the other call.
func expectUndone(t *testing.T, x api.Solicit, f flags, behind string) {
	t.Helper()
	y := tell(x, f)
	ask, e := nd.Ask(x)
	answer, e2 := nd.Tell(y)
	if e != api.OK || e2 != api.OK {
		t.Fatalf("I1: %#v: %d %d", x, e, e2)
	}
	ask.Data += behind
	answer.Data += behind
	if back, e := nd.TakeAsk(ask); back != x || e != api.OK {
		t.Errorf("I4: TakeAsk of Ask of %#v, with %q behind, is %#v %d", x, behind, back, e)
	}
	if back, e := nd.TakeTell(answer); back != y || e != api.OK {
		t.Errorf("I4: TakeTell of Tell of %#v, with %q behind, is %#v %d", y, behind, back, e)
	}
	if back, e := nd.TakeAsk(answer); back != (api.Solicit{}) || e != api.ErrNdForm {
		t.Errorf("I4: TakeAsk of Tell of %#v is %#v %d", y, back, e)
	}
	if back, e := nd.TakeTell(ask); back != (api.Advert{}) || e != api.ErrNdForm {
		t.Errorf("I4: TakeTell of Ask of %#v is %#v %d", x, back, e)
	}
}

func TestTakeUndoes(t *testing.T) {
	for _, a := range goodTargets() {
		for _, f := range allFlags() {
			for _, behind := range []string{"", option(9, "abcdef"), option(0, zeros(14)) + option(255, "\x01\x01\x02\x01\x00\x00")} {
				expectUndone(t, api.Solicit{Target: a}, f, behind)
				for _, mac := range goodMacs {
					expectUndone(t, api.Solicit{Target: a, HasMac: true, Mac: mac}, f, behind)
				}
			}
		}
	}
	s := source(4)
	for range 30000 {
		x := s.solicit()
		if !isValid(x) {
			continue
		}
		behind := ""
		for range s.below(4) {
			behind += option(3+s.below(253), s.text(8*(1+s.below(3))-2))
		}
		expectUndone(t, x, allFlags()[s.below(8)], behind)
	}
}

// TestLayUndoesTake takes messages without bits and options that are ignored: they are
// laid as the same ones.
func TestLayUndoesTake(t *testing.T) {
	s := source(5)
	for range 20000 {
		x := s.solicit()
		if !isValid(x) {
			continue
		}
		f := allFlags()[s.below(8)]
		asked, _ := nd.TakeAsk(plainAsk(x))
		if m, e := nd.Ask(asked); m != plainAsk(x) || e != api.OK {
			t.Errorf("I4: Ask of TakeAsk of %#v is %#v %d", plainAsk(x), m, e)
		}
		told, _ := nd.TakeTell(plainTell(x, f))
		if m, e := nd.Tell(told); m != plainTell(x, f) || e != api.OK {
			t.Errorf("I4: Tell of TakeTell of %#v is %#v %d", plainTell(x, f), m, e)
		}
	}
}

// TestTakeAnyMessage gives both calls whatever may be given to them.
func TestTakeAnyMessage(t *testing.T) {
	s := source(6)
	seen := map[api.Errno]int{}
	for range 60000 {
		m := api.Icmp{Six: s.below(10) > 0, Kind: 135 + s.below(2), Rest: int(s.next())}
		if s.below(12) == 0 {
			m.Code, m.Kind = s.below(2), 130+s.below(10)
		}
		target := s.solicit().Target
		data := []byte(big(target.Hi, 8) + big(target.Lo, 8))
		for range s.below(4) {
			data = append(data, option(s.below(4), s.text(8*(1+s.below(4)/3)-2))...)
		}
		if s.below(4) == 0 {
			data[s.below(len(data))] = byte(s.below(3))
		}
		if s.below(5) == 0 {
			data = data[:s.below(len(data)+1)]
		}
		m.Data = string(data)
		for _, x := range sides() {
			seen[x.expectAsPlain(t, m)]++
		}
	}
	for _, e := range []api.Errno{api.OK, api.ErrNdForm, api.ErrNdShort} {
		if seen[e] < 5000 {
			t.Errorf("only %d inputs were %d", seen[e], e)
		}
	}
	for range 20000 {
		m := api.Icmp{Six: true, Kind: 135 + s.below(2), Data: s.text(s.below(60))}
		for _, x := range sides() {
			x.expectAsPlain(t, m)
		}
	}
}

// TestTakeKeepsNoBytes writes over the memory of the text that was given: the message
// that was taken may not change with it, nor the text by the call.
func TestTakeKeepsNoBytes(t *testing.T) {
	for _, x := range sides() {
		m := x.message(mixed, option(9, "abcdef")+option(x.option, "\x00\x00\x00\x00\x00\x05"))
		s := m.Data
		b := []byte(s)
		m.Data = hostOf(b)
		got, _, e := x.take(m)
		if string(b) != s {
			t.Errorf("R3: the bytes that were given to %s have become %q", x.name, b)
		}
		clear(b)
		if want := (api.Solicit{Target: mixed, HasMac: true, Mac: 5}); got != want || e != api.OK {
			t.Errorf("R3: %s is %#v %d, not %#v", x.name, got, e, want)
		}
	}
}

func TestMessagesAreIndependent(t *testing.T) {
	x := api.Solicit{Target: mixed, HasMac: true, Mac: 5}
	m, _ := nd.Ask(x)
	n, _ := nd.Ask(x)
	m.Six, m.Kind, m.Code, m.Rest, m.Data = false, 9, 9, 9, m.Data+"x"
	if n != plainAsk(x) {
		t.Errorf("R3: a message that was written over changes another one: %#v", n)
	}
	expectMessages(t, x)
}
