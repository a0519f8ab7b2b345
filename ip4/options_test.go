package ip4_test

import (
	"slices"
	"strings"
	"testing"

	"crossway/api"
	"crossway/ip4"
)

// plainOptions is what the chapter says of some bytes: their options; false: they
// cannot be read so.
func plainOptions(s string) ([]api.Option, bool) {
	var found []api.Option
	for len(s) > 0 && s[0] != 0 {
		n := 1
		o := api.Option{Kind: int(s[0])}
		if o.Kind != 1 {
			if len(s) == 1 || s[1] < 2 || int(s[1]) > len(s) {
				return nil, false
			}
			n = int(s[1])
			o.Data = s[2:n]
		}
		found = append(found, o)
		s = s[n:]
	}
	return found, true
}

// plainKept is what F3 says of Kept.
func plainKept(s string) string {
	found, _ := plainOptions(s)
	kept := ""
	for _, o := range found {
		if o.Kind >= 128 {
			kept += string([]byte{byte(o.Kind), byte(len(o.Data) + 2)}) + o.Data
		}
	}
	for len(kept)%4 != 0 {
		kept += "\x00"
	}
	return kept
}

// options is so many bytes that look like options, and in one of so many cases are
// changed somewhere.
func (s *source) options(n, spoilt int) string {
	var b []byte
	for len(b) < n {
		left := n - len(b)
		switch s.below(8) {
		case 0:
			b = append(b, 1)
		case 1:
			if s.below(4) == 0 {
				b = append(b, 0)
			}
		default:
			if left >= 2 {
				size := min(left, 2+s.below(8))
				b = append(b, byte(2+s.below(254)), byte(size))
				b = append(b, s.text(size-2)...)
			} else {
				b = append(b, 1)
			}
		}
	}
	if n > 0 && s.below(spoilt) == 0 {
		b[s.below(n)] = byte(s.below(12))
	}
	return string(b)
}

func expectOptions(t *testing.T, s string, want ...api.Option) {
	t.Helper()
	if found, e := ip4.Options(s); e != api.OK || !slices.Equal(found, want) {
		t.Errorf("F3: Options of %d bytes %q is %d, %#v %d", len(s), start(s), len(found), found[:min(len(found), 9)], e)
	}
}

func expectOptionsError(t *testing.T, s string) {
	t.Helper()
	if found, e := ip4.Options(s); e != api.ErrFourForm || len(found) != 0 {
		t.Errorf("F3: Options of %d bytes %q is %#v %d", len(s), start(s), found[:min(len(found), 9)], e)
	}
	expectKept(t, s, "")
}

func expectKept(t *testing.T, s, want string) {
	t.Helper()
	kept := ip4.Kept(s)
	if kept != want {
		t.Errorf("F3: Kept of %d bytes %q is %q, not %q", len(s), start(s), start(kept), start(want))
	}
	if again := ip4.Kept(kept); again != kept {
		t.Errorf("F5: Kept of %q, which Kept made, is %q", start(kept), start(again))
	}
}

func TestOptionsExamples(t *testing.T) {
	expectOptions(t, "\x01\x83\x03\x09\x00\x07", api.Option{Kind: 1}, api.Option{Kind: 131, Data: "\x09"})
	expectOptionsError(t, "\x07")
	expectOptionsError(t, "\x07\x01")
	expectOptionsError(t, "\x07\x09")
	expectKept(t, "\x01\x83\x03\x09\x00\x07", "\x83\x03\x09\x00")
}

func TestOptionsFew(t *testing.T) {
	one := api.Option{Kind: 1}
	expectOptions(t, "")
	expectOptions(t, "\x00")
	expectOptions(t, "\x00\x00\x00\x00")
	expectOptions(t, "\x00\x07\x01")
	expectOptions(t, "\x00\xff")
	expectOptions(t, "\x01", one)
	expectOptions(t, "\x01\x00", one)
	expectOptions(t, "\x01\x01", one, one)
	expectOptions(t, "\x01\x00\x01", one)
	expectOptions(t, "\x01\x01\x00\x07", one, one)
	expectOptions(t, "\x01\x02\x02\x01", one, api.Option{Kind: 2}, one)
	// In the Data of an option neither a 0 ends them, nor is a 1 an option.
	expectOptions(t, "\x07\x06\x00\x01\x00\x01\x01", api.Option{Kind: 7, Data: "\x00\x01\x00\x01"}, one)
	expectOptions(t, "\x07\x04\x07\x01\x00", api.Option{Kind: 7, Data: "\x07\x01"})
	for _, s := range []string{"\x01\x07", "\x01\x01\x07\x01", "\x07\x02\x07", "\x83\x03\x09\x07\x03", "\x02\x02\x02\x00", "\x01\x02\x03"} {
		expectOptionsError(t, s)
	}
}

// TestOptionsEachLength has each Kind with each length, ahead of as many bytes as
// there should be, one fewer, and more.
func TestOptionsEachLength(t *testing.T) {
	data := source(4)
	bytes := data.text(300)
	for kind := 2; kind < 256; kind++ {
		expectOptionsError(t, string([]byte{byte(kind)}))
		for size := range 256 {
			head := string([]byte{byte(kind), byte(size)})
			if size < 2 {
				for _, n := range []int{0, 1, 2, 20, 300} {
					expectOptionsError(t, head+bytes[:n])
				}
				continue
			}
			body := bytes[:size-2]
			want := api.Option{Kind: kind, Data: body}
			expectOptions(t, head+body, want)
			expectOptions(t, head+body+"\x00\x07", want)
			expectOptions(t, "\x01"+head+body+"\x01", api.Option{Kind: 1}, want, api.Option{Kind: 1})
			expectOptionsError(t, head+body+"\x07")
			if size > 2 {
				expectOptionsError(t, head+body[:size-3])
				expectOptionsError(t, "\x01"+head+body[:size-3])
			}
		}
	}
}

func TestOptionsLong(t *testing.T) {
	for _, n := range []int{1, 40, 41, 65535, 1 << 20} {
		ones := strings.Repeat("\x01", n)
		expectOptions(t, ones, slices.Repeat([]api.Option{{Kind: 1}}, n)...)
		expectOptions(t, "\x00"+ones)
		expectOptionsError(t, ones+"\x07")
		expectKept(t, ones, "")
		empty := strings.Repeat("\xff\x02", n)
		expectOptions(t, empty, slices.Repeat([]api.Option{{Kind: 255}}, n)...)
		expectKept(t, empty, empty+strings.Repeat("\x00", n%2*2))
		expectOptionsError(t, empty+"\x80")
		expectOptionsError(t, strings.Repeat("\xff", n/255*255+1))
		expectOptions(t, strings.Repeat("\x00", n))
	}
	whole := strings.Repeat("\x80\xff"+strings.Repeat("\xee", 253), 1000)
	expectOptions(t, whole, slices.Repeat([]api.Option{{Kind: 128, Data: strings.Repeat("\xee", 253)}}, 1000)...)
	expectKept(t, whole, whole)
}

func TestKeptKinds(t *testing.T) {
	for kind := 2; kind < 256; kind++ {
		for size := 2; size < 12; size++ {
			s := string([]byte{byte(kind), byte(size)}) + strings.Repeat("\xee", size-2)
			want := ""
			if kind >= 128 {
				want = s + strings.Repeat("\x00", (12-size)%4)
			}
			expectKept(t, s, want)
			expectKept(t, "\x01"+s+"\x01\x01\x00\x80", want)
			expectKept(t, "\x07\x03\x80"+s+"\x7f\x02", want)
		}
	}
}

func TestKeptSeveral(t *testing.T) {
	for s, want := range map[string]string{
		"":                                 "",
		"\x00":                             "",
		"\x00\x80\x02":                     "",
		"\x01":                             "",
		"\x7f\x04\x80\x80":                 "",
		"\x80\x02":                         "\x80\x02\x00\x00",
		"\xff\x02":                         "\xff\x02\x00\x00",
		"\x80\x02\x81\x02":                 "\x80\x02\x81\x02",
		"\x80\x02\x01\x81\x02":             "\x80\x02\x81\x02",
		"\x80\x03\x09\x07\x02\x81\x02":     "\x80\x03\x09\x81\x02\x00\x00\x00",
		"\x81\x03\x09\x80\x03\x08":         "\x81\x03\x09\x80\x03\x08\x00\x00",
		"\x80\x04\x00\x00\x80\x03\x01\x00": "\x80\x04\x00\x00\x80\x03\x01\x00",
		"\x83\x03\x09\x83\x03\x09":         "\x83\x03\x09\x83\x03\x09\x00\x00",
	} {
		expectKept(t, s, want)
		for _, spoilt := range []string{"\x07", "\x07\x01", "\x80", "\x80\x00", "\x80\x03"} {
			if x := s + spoilt; !strings.HasPrefix(s, "\x00") && !strings.HasSuffix(s, "\x01\x00") {
				expectOptionsError(t, x)
			}
		}
	}
}

// TestOptionsAnyBytes gives the calls whatever may be given to them.
func TestOptionsAnyBytes(t *testing.T) {
	s := source(5)
	for i := range 100000 {
		x := s.text(s.below(12))
		if i%2 == 0 {
			x = s.options(s.below(60), 3)
		}
		want, ok := plainOptions(x)
		if !ok {
			expectOptionsError(t, x)
			continue
		}
		expectOptions(t, x, want...)
		expectKept(t, x, plainKept(x))
	}
}

// TestOptionsKeepNoBytes writes over the memory of the text that was given: no result
// may change with it.
func TestOptionsKeepNoBytes(t *testing.T) {
	b := []byte("\x83\x08before\x94\x04ab")
	found, _ := ip4.Options(hostOf(b))
	kept := ip4.Kept(hostOf(b))
	for i := range b {
		b[i] = 'X'
	}
	if !slices.Equal(found, []api.Option{{Kind: 131, Data: "before"}, {Kind: 148, Data: "ab"}}) {
		t.Errorf("R3: options share their bytes with what Options was given: %#v", found)
	}
	if kept != "\x83\x08before\x94\x04ab" {
		t.Errorf("R3: the kept bytes are shared with what Kept was given: %q", kept)
	}
}

func TestOptionsAreIndependent(t *testing.T) {
	s := "\x01\x83\x03\x09\x94\x02"
	want := []api.Option{{Kind: 1}, {Kind: 131, Data: "\x09"}, {Kind: 148}}
	first, _ := ip4.Options(s)
	second, _ := ip4.Options(s)
	spare := first[:cap(first)]
	for i := range spare {
		spare[i] = api.Option{Kind: 99, Data: "x"}
	}
	_ = append(first, api.Option{Kind: 98})
	if !slices.Equal(second, want) {
		t.Errorf("R3: options that were written over change others: %#v", second)
	}
	expectOptions(t, s, want...)
}
