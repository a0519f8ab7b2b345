package meter_test

import (
	"math"
	"testing"

	"crossway/api"
	"crossway/meter"
)

// source makes numbers that look like chance, the same ones each time.
type source uint64

func (s *source) next() uint64 {
	*s = *s*6364136223846793005 + 1442695040888963407
	return uint64(*s ^ *s>>29)
}

func (s *source) below(n int) int { return int(s.next() >> 11 % uint64(n)) }

func one[T any](s *source, list []T) T { return list[s.below(len(list))] }

// wrongKinds are those of which nothing is counted.
var wrongKinds = []int{math.MinInt, math.MinInt + 1, math.MinInt + 3, math.MinInt32, -1 << 32, -256, -17, -16, -15, -2, -1, 16, 17, 31, 32, 255, 256, 259, 65536, math.MaxInt32, 1 << 32, 1<<32 + 3, 1 << 62, math.MaxInt - 1, math.MaxInt}

// wrongBytes are numbers of bytes that nothing has.
var wrongBytes = []int{math.MinInt, math.MinInt + 1, math.MinInt + 7, math.MinInt32, -1 << 32, -65536, -65535, -256, -2, -1, 65536, 65537, 1 << 17, 1 << 24, math.MaxInt32, 1 << 32, 1<<32 + 1, 1<<32 + 100, 1 << 62, math.MaxInt - 1, math.MaxInt}

// edgeBytes are the least and the greatest numbers of bytes, and such in between.
var edgeBytes = []int{0, 1, 2, 7, 59, 60, 255, 256, 257, 1499, 1500, 32767, 32768, 65534, 65535}

// both is what is counted, in another way: as two whole numbers.
type both struct{ count, bytes int }

func (b both) number() complex128 { return complex(float64(b.count), float64(b.bytes)) }

// plain is a meter in another way.
type plain [16]both

func (p *plain) count(kind, bytes int) api.Errno {
	switch {
	case kind <= -1 || kind >= 16:
		return api.ErrArg
	case bytes <= -1 || bytes >= 65536:
		return api.ErrArg
	}
	p[kind] = both{p[kind].count + 1, p[kind].bytes + bytes}
	return api.OK
}

func (p *plain) merge(o plain) {
	for kind, x := range o {
		p[kind] = both{p[kind].count + x.count, p[kind].bytes + x.bytes}
	}
}

func (p *plain) all() (sum both) {
	for kind := 15; kind >= 0; kind-- {
		sum = both{sum.count + p[kind].count, sum.bytes + p[kind].bytes}
	}
	return sum
}

// made is a new meter that is there.
func made(t *testing.T) *meter.Meter {
	t.Helper()
	m := meter.New()
	if m == nil {
		t.Fatal("W1: New is nil")
	}
	return m
}

// bucket is a full one that is there.
func bucket(t *testing.T, rate, burst int) *meter.Tokens {
	t.Helper()
	b, e := meter.Bucket(rate, burst)
	if b == nil || e != api.OK {
		t.Fatalf("W3: Bucket(%d, %d) is an error, %d", rate, burst, e)
	}
	return b
}

func expectCount(t *testing.T, m *meter.Meter, kind, bytes int, want api.Errno) {
	t.Helper()
	if e := m.Count(kind, bytes); e != want {
		t.Fatalf("W1: Count(%d, %d) is %d, not %d", kind, bytes, e, want)
	}
}

func expectTold(t *testing.T, m *meter.Meter, kind int, want complex128) {
	t.Helper()
	if n := m.Told(kind); n != want {
		t.Fatalf("W1: Told(%d) is %v, not %v", kind, n, want)
	}
}

func expectAll(t *testing.T, m *meter.Meter, want complex128) {
	t.Helper()
	if n := m.All(); n != want {
		t.Fatalf("W1: All is %v, not %v", n, want)
	}
}

// expectAs holds everything that a meter tells against a plain one.
func expectAs(t *testing.T, m *meter.Meter, p *plain) {
	t.Helper()
	expectAll(t, m, p.all().number())
	for kind, x := range p {
		expectTold(t, m, kind, x.number())
	}
	for _, kind := range wrongKinds {
		expectTold(t, m, kind, 0)
	}
	expectAll(t, m, p.all().number()) // to ask changes nothing
}

func countBoth(t *testing.T, m *meter.Meter, p *plain, kind, bytes int) {
	t.Helper()
	expectCount(t, m, kind, bytes, p.count(kind, bytes))
}

// counted is a meter, and a plain one, of so many of whatever kinds.
func counted(t *testing.T, s *source, count int) (*meter.Meter, *plain) {
	t.Helper()
	m, p := made(t), &plain{}
	for range count {
		countBoth(t, m, p, s.below(16), s.below(65536))
	}
	return m, p
}

func expectShare(t *testing.T, some, all, want complex128) {
	t.Helper()
	if n := meter.Share(some, all); n != want {
		t.Fatalf("W2: Share(%v, %v) is %v, not %v", some, all, n, want)
	}
}

func expectTake(t *testing.T, b *meter.Tokens, n int, want bool) {
	t.Helper()
	if ok := b.Take(n); ok != want {
		t.Fatalf("W3: Take(%d) is %t at the level %d", n, ok, b.Level())
	}
}

func expectLevel(t *testing.T, b *meter.Tokens, want int) {
	t.Helper()
	if n := b.Level(); n != want {
		t.Fatalf("W3: Level is %d, not %d", n, want)
	}
}

// expectTicks lets ticks pass, and holds the level behind each against one of the list.
func expectTicks(t *testing.T, b *meter.Tokens, levels ...int) {
	t.Helper()
	for _, want := range levels {
		b.Tick()
		expectLevel(t, b, want)
	}
}

func TestExamples(t *testing.T) {
	m := made(t)
	expectCount(t, m, 3, 100, api.OK)
	expectCount(t, m, 3, 20, api.OK)
	expectCount(t, m, 0, 7, api.OK)
	expectTold(t, m, 3, 2+120i)
	expectAll(t, m, 3+127i)
	expectCount(t, m, 16, 0, api.ErrArg)
	expectCount(t, m, 0, 65536, api.ErrArg)
	expectShare(t, 2+30i, 8+120i, 0.25+0.25i)
	expectShare(t, 1, 0, 0)
	b := bucket(t, 2, 3)
	expectTake(t, b, 4, false)
	expectTake(t, b, 3, true)
	expectTake(t, b, 1, false)
	expectTicks(t, b, 2, 3)
}
