package epoch_test

import (
	"maps"
	"math"
	"slices"
	"strconv"
	"testing"

	"crossway/api"
	"crossway/epoch"
)

// source makes numbers that look like chance, the same ones each time.
type source uint64

func (s *source) next() uint64 {
	*s = *s*6364136223846793005 + 1442695040888963407
	return uint64(*s ^ *s>>29)
}

func (s *source) below(n int) int { return int(s.next() >> 11 % uint64(n)) }

// epochs is what an epoch can do, and a plain one too.
type epochs interface {
	Publish(v int) []int
	Enter(r int) (int, api.Errno)
	Leave(r int) ([]int, api.Errno)
	Current() int
	Seen(r int) (int, bool)
	Waiting() []int
}

// plain is an epoch in another way: it keeps all publications, and asks of each of them
// whether it waits, by the words of the chapter.
type plain struct {
	readers  int
	versions []int       // by the number of the publication
	back     []bool      // whether it was given back
	since    map[int]int // the publications since which readers are in
}

func newPlain(readers, first int) *plain {
	return &plain{readers, []int{first}, []bool{false}, map[int]int{}}
}

func (p *plain) clone() *plain {
	return &plain{p.readers, slices.Clone(p.versions), slices.Clone(p.back), maps.Clone(p.since)}
}

// waits tells whether a reader is in since the publication n or an earlier one.
func (p *plain) waits(n int) bool {
	for _, m := range p.since {
		if m <= n {
			return true
		}
	}
	return false
}

func (p *plain) newest() int { return len(p.versions) - 1 }

// giveBack gives back what was replaced and doesn't wait.
func (p *plain) giveBack() (l []int) {
	for n := range p.newest() {
		if !p.back[n] && !p.waits(n) {
			p.back[n] = true
			l = append(l, p.versions[n])
		}
	}
	return l
}

func (p *plain) Publish(v int) []int {
	p.versions, p.back = append(p.versions, v), append(p.back, false)
	return p.giveBack()
}

func (p *plain) Enter(r int) (int, api.Errno) {
	if _, in := p.since[r]; in || r < 1 || r > p.readers {
		return 0, api.ErrEpochNone
	}
	p.since[r] = p.newest()
	return p.Current(), api.OK
}

func (p *plain) Leave(r int) ([]int, api.Errno) {
	if _, in := p.since[r]; !in {
		return nil, api.ErrEpochNone
	}
	delete(p.since, r)
	return p.giveBack(), api.OK
}

func (p *plain) Current() int { return p.versions[p.newest()] }

func (p *plain) Seen(r int) (int, bool) {
	n, in := p.since[r]
	if !in {
		return 0, false
	}
	return p.versions[n], true
}

func (p *plain) Waiting() (l []int) {
	for n := range p.newest() {
		if p.waits(n) {
			l = append(l, p.versions[n])
		}
	}
	return l
}

// call is one call, of a version or a reader, or of nothing.
type call struct {
	name string
	n    int
}

// answer is what a call returned.
type answer struct {
	v    int
	ok   bool
	f    api.Errno
	list string
}

// written is a list as text, so that answers can be compared.
func written(l []int) string {
	var b []byte
	for _, v := range l {
		b = append(strconv.AppendInt(b, int64(v), 10), ' ')
	}
	return string(b)
}

// do makes one call.
func (c call) do(e epochs) (a answer) {
	var l []int
	switch c.name {
	case "Publish":
		l = e.Publish(c.n)
	case "Enter":
		a.v, a.f = e.Enter(c.n)
	case "Leave":
		l, a.f = e.Leave(c.n)
	case "Current":
		a.v = e.Current()
	case "Seen":
		a.v, a.ok = e.Seen(c.n)
	case "Waiting":
		l = e.Waiting()
	}
	a.list = written(l)
	return a
}

// expectBoth makes one call of both, and expects the same answers, also of what they say
// then.
func expectBoth(t *testing.T, e *epoch.Epoch, p *plain, c call) {
	t.Helper()
	if got, want := c.do(e), c.do(p); got != want {
		t.Fatalf("%s(%d) is %v, not %v", c.name, c.n, got, want)
	}
	asks := []call{{"Current", 0}, {"Waiting", 0}}
	for r := -1; r <= p.readers+1; r++ {
		asks = append(asks, call{"Seen", r})
	}
	for _, ask := range asks {
		if got, want := ask.do(e), ask.do(p); got != want {
			t.Fatalf("behind %s(%d): %s(%d) is %v, not %v", c.name, c.n, ask.name, ask.n, got, want)
		}
	}
}

// TestAllShortMixtures: all sequences of 7 calls of an epoch with two readers, each
// publication of a version of its own.
func TestAllShortMixtures(t *testing.T) {
	calls := []call{{"Publish", 0}, {"Enter", 1}, {"Enter", 2}, {"Leave", 1}, {"Leave", 2}}
	const length = 7
	var chosen [length]int
	for {
		e, p := made(t, 2, 0), newPlain(2, 0)
		for i, n := range chosen {
			c := calls[n]
			if c.name == "Publish" {
				c.n = i + 1
			}
			expectBoth(t, e, p, c)
		}
		i := length - 1
		for i >= 0 && chosen[i] == len(calls)-1 {
			chosen[i] = 0
			i--
		}
		if i < 0 {
			return
		}
		chosen[i]++
	}
}

// chance is a call by chance, seldom a wrong one.
func (s *source) chance(readers, versions int) call {
	n := 1 + s.below(readers)
	if s.below(20) == 0 {
		l := noReaders(readers)
		n = l[s.below(len(l))]
	}
	switch s.below(3) {
	case 0:
		return call{"Publish", s.below(versions) - versions/2}
	case 1:
		return call{"Enter", n}
	}
	return call{"Leave", n}
}

func TestMixtures(t *testing.T) {
	s := source(13)
	for turn := range 400 {
		readers, first := 1+turn%16, s.below(100)
		e, p := made(t, readers, first), newPlain(readers, first)
		for range 200 {
			expectBoth(t, e, p, s.chance(readers, 3+turn*100))
		}
	}
}

// TestTheorem holds mixtures against N4's words, with a version of its own for each
// publication.
func TestTheorem(t *testing.T) {
	s := source(4)
	for turn := range 400 {
		readers := 1 + turn%16
		e := made(t, readers, 0)
		in, back, newest := map[int]int{}, 0, 0
		for range 300 {
			c := s.chance(readers, 3)
			if c.name == "Publish" {
				newest++
				c.n = newest
			}
			a := c.do(e)
			switch {
			case c.name == "Enter" && a.f == api.OK:
				in[c.n] = a.v
			case c.name == "Leave" && a.f == api.OK:
				delete(in, c.n)
			}
			waiting := e.Waiting()
			back = expectOnce(t, a.list, back, newest-len(waiting))
			if len(in) == 0 && len(waiting) > 0 {
				t.Fatalf("with all readers out, %v wait", waiting)
			}
			for r, v := range in {
				expectSeen(t, e, r, v)
				if v != e.Current() && !slices.Contains(waiting, v) {
					t.Fatalf("reader %d sees %d, which neither is current nor waits", r, v)
				}
			}
		}
	}
}

// expectOnce expects that the versions from begin to end, without end, were given back
// now, and returns end.
func expectOnce(t *testing.T, list string, begin, end int) int {
	t.Helper()
	var l []int
	for v := begin; v < end; v++ {
		l = append(l, v)
	}
	if list != written(l) {
		t.Fatalf("given back are %s, not %v", list, l)
	}
	return end
}

// TestNoPanic: any calls with any numbers, in any order.
func TestNoPanic(t *testing.T) {
	s := source(99)
	numbers := append(slices.Clone(someVersions), 3, 15, 16, 17, 255, 1<<16, math.MinInt64+1<<32)
	names := []string{"Publish", "Enter", "Leave", "Current", "Seen", "Waiting"}
	for _, readers := range append(slices.Clone(numbers), 1, 2, 4, 8, 16) {
		e, f := epoch.New(readers, s.below(9))
		if f != api.OK {
			continue
		}
		p := newPlain(readers, e.Current())
		for range 3000 {
			c := call{names[s.below(len(names))], numbers[s.below(len(numbers))]}
			if got, want := c.do(e), c.do(p); got != want {
				t.Fatalf("%s(%d) is %v, not %v", c.name, c.n, got, want)
			}
		}
	}
}
