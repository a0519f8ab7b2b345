package icmp_test

import (
	"math"
	"slices"
	"strings"
	"testing"

	"crossway/api"
	"crossway/icmp"
)

// fourErrors are the kinds of the error messages without Six.
var fourErrors = []int{3, 4, 5, 11, 12}

// farNumbers are kinds that are those of no message.
var farNumbers = []int{math.MinInt, math.MinInt + 3, math.MinInt + 8, -1 << 32, -65536, -256, -253, -128, -3, -1, 256, 257, 259, 264, 384, 65539, 1<<32 + 3, 1<<32 + 8, 1<<32 + 128, math.MaxInt}

// around are all kinds of messages, and such as are none.
func around() []int {
	found := slices.Clone(farNumbers)
	for n := range 256 {
		found = append(found, n)
	}
	return found
}

func expectReply(t *testing.T, m, want api.Icmp) {
	t.Helper()
	kept := m
	if r, e := icmp.Reply(m); r != want || e != api.OK {
		t.Errorf("H3: Reply of %#v is %#v %d, not %#v", brief(m), brief(r), e, brief(want))
	}
	if m != kept {
		t.Errorf("R3: the message %#v has become %#v", brief(kept), brief(m))
	}
}

func expectNoReply(t *testing.T, m api.Icmp) {
	t.Helper()
	if r, e := icmp.Reply(m); r != (api.Icmp{}) || e != api.ErrIcmpForm {
		t.Errorf("H3: Reply of %#v is %#v %d, not ErrIcmpForm", brief(m), brief(r), e)
	}
}

// parts are a message's with other parts than its family and its kind, valid ones and
// such as are not.
func parts() []api.Icmp {
	return []api.Icmp{
		{},
		{Rest: 65537, Data: "x"},
		{Code: 1},
		{Code: 255, Rest: 1<<32 - 1, Data: "some data"},
		{Code: -1, Rest: -1},
		{Code: 256, Rest: 1 << 32},
		{Code: math.MaxInt, Rest: math.MinInt},
		{Code: math.MinInt, Rest: math.MaxInt, Data: strings.Repeat("\x00", 65001)},
		{Rest: -7, Data: strings.Repeat("\xff", 70000)},
	}
}

func TestIsError(t *testing.T) {
	for _, m := range parts() {
		for _, n := range around() {
			m.Kind = n
			m.Six = false
			if is := icmp.IsError(m); is != slices.Contains(fourErrors, n) {
				t.Errorf("H3: IsError of %#v is %t", brief(m), is)
			}
			m.Six = true
			if is := icmp.IsError(m); is != (n >= 0 && n <= 127) {
				t.Errorf("H3: IsError of %#v is %t", brief(m), is)
			}
		}
	}
}

func TestIsErrorExamples(t *testing.T) {
	for _, isSix := range families {
		if m := (api.Icmp{Six: isSix, Kind: 3}); !icmp.IsError(m) {
			t.Errorf("H3: IsError of %#v is false", m)
		}
		if m := small(isSix); icmp.IsError(m) {
			t.Errorf("H3: IsError of %#v is true", m)
		}
	}
}

func TestReplyExamples(t *testing.T) {
	expectReply(t, api.Icmp{Kind: 8, Rest: 65537}, api.Icmp{Kind: 0, Rest: 65537})
	expectReply(t, api.Icmp{Six: true, Kind: 128, Rest: 65537, Data: "x"}, api.Icmp{Six: true, Kind: 129, Rest: 65537, Data: "x"})
}

// TestReplyEachKind has each kind with each of some codes, in both families: the one of
// an echo request alone is replied to, and that of the other family is not.
func TestReplyEachKind(t *testing.T) {
	codes := slices.Concat([]int{0, 1, -1, 8, 128, 255}, farNumbers)
	for _, isSix := range families {
		for _, n := range around() {
			for _, c := range codes {
				m := api.Icmp{Six: isSix, Kind: n, Code: c, Rest: 0x01020304, Data: "some data"}
				want := m
				switch {
				case c == 0 && !isSix && n == 8:
					want.Kind = 0
					expectReply(t, m, want)
				case c == 0 && isSix && n == 128:
					want.Kind = 129
					expectReply(t, m, want)
				default:
					expectNoReply(t, m)
				}
			}
		}
	}
}

// TestReplyKeepsParts has requests with other parts, even such as may not be: they are
// the reply's too.
func TestReplyKeepsParts(t *testing.T) {
	for _, m := range parts() {
		for _, isSix := range families {
			m.Six, m.Kind = isSix, small(isSix).Kind
			if m.Code != 0 {
				expectNoReply(t, m)
			}
			m.Code = 0
			want := m
			want.Kind = map[bool]int{false: 0, true: 129}[isSix]
			expectReply(t, m, want)
			// A reply is no request.
			expectNoReply(t, want)
		}
	}
}

// TestReplyGoes has a request laid, taken, replied to, and the reply laid and taken.
func TestReplyGoes(t *testing.T) {
	for _, isSix := range families {
		m := small(isSix)
		m.Rest, m.Data = 0x00070001, "some data"
		s, _ := icmp.Lay(m, far.from, far.to)
		took, _ := icmp.Take(s, isSix, far.from, far.to)
		reply, e := icmp.Reply(took)
		if e != api.OK || icmp.IsError(reply) {
			t.Errorf("H3: the reply %#v %d is an error", reply, e)
		}
		expectLay(t, reply, ends{far.to, far.from}, plain(reply, far))
		expectTake(t, plain(reply, far), ends{far.to, far.from}, reply)
	}
}
