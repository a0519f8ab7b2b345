package wheel_test

import (
	"math"
	"slices"
	"testing"

	"crossway/api"
	"crossway/wheel"
)

// source makes numbers that look like chance, the same ones each time.
type source uint64

func (s *source) next() uint64 {
	*s = *s*6364136223846793005 + 1442695040888963407
	return uint64(*s ^ *s>>29)
}

func (s *source) below(n int) int { return int(s.next() >> 11 % uint64(n)) }

func one[T any](s *source, list []T) T { return list[s.below(len(list))] }

// farIds are ids that are numbers too.
var farIds = []int{math.MinInt, math.MinInt + 1, math.MinInt32, -4096, -1, 0, 1 << 32, 1<<32 + 1, math.MaxInt32, 1 << 62, math.MaxInt - 1, math.MaxInt}

// wrongAfters are those that no timer has.
var wrongAfters = []int{math.MinInt, math.MinInt + 1, math.MinInt + 4095, math.MinInt32, -1 << 32, -4096, -4095, -256, -16, -2, -1, 0, 4096, 4097, 8191, 8192, 65536, math.MaxInt32, 1 << 32, 1<<32 + 1, 1<<32 + 4095, 1 << 62, math.MaxInt - 1, math.MaxInt}

// edgeAfters are those at which a level begins or ends, and such beside them.
var edgeAfters = []int{1, 2, 14, 15, 16, 17, 31, 32, 33, 239, 240, 241, 254, 255, 256, 257, 271, 272, 273, 511, 512, 513, 3839, 3840, 3841, 4079, 4080, 4094, 4095}

// begins are times at which the slots of the levels stand differently.
var begins = []int{0, 1, 2, 7, 14, 15, 16, 17, 31, 100, 239, 240, 241, 254, 255, 256, 257, 271, 272, 1000, 2048, 3839, 3840, 4080, 4094, 4095, 4096, 4097, 4351, 4352, 8191, 8192}

// waiting is a timer of a plain wheel.
type waiting struct{ id, due int }

// plain is a wheel in another way: one list of what waits, in the order in which it was added.
type plain struct {
	now int
	in  []waiting
}

func (p *plain) find(id int) int {
	return slices.IndexFunc(p.in, func(x waiting) bool { return x.id == id })
}

func (p *plain) add(id, after int) api.Errno {
	switch {
	case after <= 0 || after >= 4096:
		return api.ErrArg
	case p.find(id) >= 0:
		return api.ErrWheelThere
	case len(p.in) >= 1000:
		return api.ErrWheelFull
	}
	p.in = append(p.in, waiting{id, p.now + after})
	return api.OK
}

func (p *plain) cancel(id int) bool {
	i := p.find(id)
	if i < 0 {
		return false
	}
	p.in = slices.Delete(p.in, i, i+1)
	return true
}

func (p *plain) tick() (came []int) {
	p.now++
	var stay []waiting
	for _, x := range p.in {
		if x.due == p.now {
			came = append(came, x.id)
		} else {
			stay = append(stay, x)
		}
	}
	if len(came) > 0 {
		p.in = stay
	}
	return came
}

func (p *plain) left(id int) (int, bool) {
	if i := p.find(id); i >= 0 {
		return p.in[i].due - p.now, true
	}
	return 0, false
}

func (p *plain) next() int {
	n := 0
	for _, x := range p.in {
		if n == 0 || x.due-p.now < n {
			n = x.due - p.now
		}
	}
	return n
}

// made is a new wheel that is there.
func made(t *testing.T) *wheel.Wheel {
	t.Helper()
	w := wheel.New()
	if w == nil {
		t.Fatal("V1: New is nil")
	}
	return w
}

// madeAt is a wheel behind so many ticks, with nothing waiting.
func madeAt(t *testing.T, now int) *wheel.Wheel {
	t.Helper()
	w := made(t)
	for range now {
		if l := w.Tick(); len(l) != 0 {
			t.Fatalf("V3: Tick is %v with nothing waiting", l)
		}
	}
	return w
}

func expectAdd(t *testing.T, w *wheel.Wheel, id, after int, want api.Errno) {
	t.Helper()
	if e := w.Add(id, after); e != want {
		t.Fatalf("V2: at %d Add(%d, %d) is %d, not %d", w.Now(), id, after, e, want)
	}
}

func expectCancel(t *testing.T, w *wheel.Wheel, id int, want bool) {
	t.Helper()
	if ok := w.Cancel(id); ok != want {
		t.Fatalf("V2: at %d Cancel(%d) is %t", w.Now(), id, ok)
	}
}

func expectTick(t *testing.T, w *wheel.Wheel, want ...int) {
	t.Helper()
	if l := w.Tick(); !slices.Equal(l, want) {
		t.Fatalf("V3: at %d Tick is %v, not %v", w.Now(), l, want)
	}
}

// expectTicks lets so many ticks pass, at which nothing is due.
func expectTicks(t *testing.T, w *wheel.Wheel, n int) {
	t.Helper()
	for range n {
		expectTick(t, w)
	}
}

func expectLeft(t *testing.T, w *wheel.Wheel, id, want int, waits bool) {
	t.Helper()
	if n, ok := w.Left(id); n != want || ok != waits {
		t.Fatalf("V4: at %d Left(%d) is %d %t, not %d %t", w.Now(), id, n, ok, want, waits)
	}
}

// expectSays holds the three numbers that a wheel says of itself.
func expectSays(t *testing.T, w *wheel.Wheel, now, count, next int) {
	t.Helper()
	if n := w.Now(); n != now {
		t.Fatalf("V1: Now is %d, not %d", n, now)
	}
	if n := w.Len(); n != count {
		t.Fatalf("V4: at %d Len is %d, not %d", now, n, count)
	}
	if n := w.Next(); n != next {
		t.Fatalf("V4: at %d Next is %d, not %d", now, n, next)
	}
}

// expectAs holds everything that a wheel says against a plain one.
func expectAs(t *testing.T, w *wheel.Wheel, p *plain) {
	t.Helper()
	expectSays(t, w, p.now, len(p.in), p.next())
	for _, x := range p.in {
		expectLeft(t, w, x.id, x.due-p.now, true)
	}
	for _, id := range farIds {
		n, ok := p.left(id)
		expectLeft(t, w, id, n, ok)
	}
	expectSays(t, w, p.now, len(p.in), p.next()) // to ask changes nothing
}

// addBoth adds a timer to a wheel and a plain one.
func addBoth(t *testing.T, w *wheel.Wheel, p *plain, id, after int) {
	t.Helper()
	expectAdd(t, w, id, after, p.add(id, after))
}

func cancelBoth(t *testing.T, w *wheel.Wheel, p *plain, id int) {
	t.Helper()
	expectCancel(t, w, id, p.cancel(id))
}

func tickBoth(t *testing.T, w *wheel.Wheel, p *plain) {
	t.Helper()
	expectTick(t, w, p.tick()...)
}

// endBoth lets the time pass till nothing waits, and a round more.
func endBoth(t *testing.T, w *wheel.Wheel, p *plain) {
	t.Helper()
	for range 4095 {
		tickBoth(t, w, p)
	}
	expectSays(t, w, p.now, 0, 0)
	expectTicks(t, w, 4097)
}

// refuse holds that a wheel takes none of several timers, and says and does the same as before.
func refuse(t *testing.T, w *wheel.Wheel, p *plain, id int, afters []int, want api.Errno) {
	t.Helper()
	for _, after := range afters {
		expectAdd(t, w, id, after, want)
		n, ok := p.left(id)
		expectLeft(t, w, id, n, ok)
	}
	expectAs(t, w, p)
}

func TestExamples(t *testing.T) {
	w := made(t)
	expectAdd(t, w, 5, 2, api.OK)
	expectAdd(t, w, 7, 1, api.OK)
	expectAdd(t, w, 6, 2, api.OK)
	expectAdd(t, w, 5, 9, api.ErrWheelThere)
	expectSays(t, w, 0, 3, 1)
	expectTick(t, w, 7)
	expectLeft(t, w, 6, 1, true)
	expectTick(t, w, 5, 6)
	expectTick(t, w)
	expectSays(t, w, 3, 0, 0)
	expectAdd(t, w, 1, 0, api.ErrArg)
	expectAdd(t, w, 1, 4096, api.ErrArg)
}
