package arena_test

import (
	"math"
	"slices"
	"testing"

	"crossway/api"
	"crossway/arena"
)

// source makes numbers that look like chance, the same ones each time.
type source uint64

func (s *source) next() uint64 {
	*s = *s*6364136223846793005 + 1442695040888963407
	return uint64(*s ^ *s>>29)
}

func (s *source) below(n int) int { return int(s.next() >> 11 % uint64(n)) }

// shuffled is the elements of l in an order that looks like chance.
func (s *source) shuffled(l []int) []int {
	l = slices.Clone(l)
	for i := range l {
		j := i + s.below(len(l)-i)
		l[i], l[j] = l[j], l[i]
	}
	return l
}

// oddOrders are those of no arena, and of no block in any.
var oddOrders = []int{math.MinInt, math.MinInt + 1, math.MinInt32, -64, -17, -2, -1, 17, 18, 31, 32, 33, 63, 64, 65, 128, math.MaxInt32, math.MaxInt - 1, math.MaxInt}

// farPlaces are positions outside every arena.
var farPlaces = []int{math.MinInt, math.MinInt + 1, math.MinInt32, -65536, -2, -1, 65536, 65537, 1 << 17, math.MaxInt32, 1 << 32, 1 << 62, math.MaxInt - 1, math.MaxInt}

// block is a block of an arena.
type block struct{ at, order int }

// plain is an arena in another way: it keeps of each cell in which taken block it is,
// and goes through all cells for each question.
type plain struct {
	order int
	owner []int // the position of the taken block that a cell is in, or -1
	taken []block
}

func newPlain(order int) *plain {
	return &plain{order: order, owner: slices.Repeat([]int{-1}, 1<<order)}
}

// free is the greatest blocks of cells in no taken block, the first one first.
func (p *plain) free() []block {
	var l []block
	for at := 0; at < len(p.owner); {
		k := p.order
		for k >= 0 && (at%(1<<k) != 0 || !p.idle(at, k)) {
			k--
		}
		if k >= 0 {
			l = append(l, block{at, k})
		}
		at += 1 << max(k, 0)
	}
	return l
}

// idle is whether no cell of a block is in a taken one.
func (p *plain) idle(at, order int) bool {
	for i := at; i < at+1<<order; i++ {
		if p.owner[i] >= 0 {
			return false
		}
	}
	return true
}

func (p *plain) take(order int) (int, api.Errno) {
	if order < 0 || order > p.order {
		return 0, api.ErrArg
	}
	best := block{0, -1}
	for _, b := range p.free() {
		if b.order >= order && (best.order < 0 || b.order < best.order) {
			best = b
		}
	}
	if best.order < 0 {
		return 0, api.ErrArenaFull
	}
	p.own(best.at, order, best.at)
	p.taken = append(p.taken, block{best.at, order})
	return best.at, api.OK
}

func (p *plain) own(at, order, owner int) {
	for i := at; i < at+1<<order; i++ {
		p.owner[i] = owner
	}
}

func (p *plain) give(at int) api.Errno {
	for i, b := range p.taken {
		if b.at == at {
			p.own(at, b.order, -1)
			p.taken = slices.Delete(p.taken, i, i+1)
			return api.OK
		}
	}
	return api.ErrArenaNone
}

func (p *plain) orderAt(at int) int {
	for _, b := range p.taken {
		if b.at == at {
			return b.order
		}
	}
	return -1
}

// places is where taken blocks begin, in ascending order.
func (p *plain) places() []int {
	var l []int
	for _, b := range p.taken {
		l = append(l, b.at)
	}
	slices.Sort(l)
	return l
}

// said is all that an arena says of itself, but the orders of its blocks.
type said struct{ free, greatest int }

func (p *plain) said() said {
	x := said{0, -1}
	for _, b := range p.free() {
		x.free += 1 << b.order
		x.greatest = max(x.greatest, b.order)
	}
	return x
}

func saidBy(a *arena.Arena) said { return said{a.Free(), a.Greatest()} }

// expectAs expects of an arena what the other way says, of each position too.
func expectAs(t *testing.T, a *arena.Arena, p *plain) {
	t.Helper()
	if x, want := saidBy(a), p.said(); x != want {
		t.Errorf("K4: Free is %d and Greatest %d, not %d and %d, with %v taken", x.free, x.greatest, want.free, want.greatest, p.taken)
	}
	if l, want := a.Taken(), p.places(); !slices.Equal(l, want) {
		t.Errorf("K4: Taken is %v, not %v", l, want)
	}
	orders := make([]int, len(p.owner)+6)
	for i := range orders {
		orders[i] = -1
	}
	for _, b := range p.taken {
		orders[b.at+3] = b.order
	}
	for i, want := range orders {
		if n := a.Order(i - 3); n != want {
			t.Errorf("K4: Order(%d) is %d, not %d, with %v taken", i-3, n, want, p.taken)
		}
	}
	for _, at := range farPlaces {
		if n := a.Order(at); n != -1 {
			t.Errorf("K4: Order(%d) is %d outside the arena", at, n)
		}
	}
}

// made is an arena, and the same one in the other way.
func made(t *testing.T, order int) (*arena.Arena, *plain) {
	t.Helper()
	a, e := arena.New(order)
	if a == nil || e != api.OK {
		t.Fatalf("K1: New(%d) is %v %d", order, a, e)
	}
	return a, newPlain(order)
}

// alone is an arena without the other way.
func alone(t *testing.T, order int) *arena.Arena {
	t.Helper()
	a, _ := made(t, order)
	return a
}

func expectTake(t *testing.T, a *arena.Arena, order, want int) {
	t.Helper()
	if at, e := a.Take(order); at != want || e != api.OK {
		t.Errorf("K2: Take(%d) is %d %d, not %d", order, at, e, want)
	}
}

func expectNoTake(t *testing.T, a *arena.Arena, order int, want api.Errno) {
	t.Helper()
	if at, e := a.Take(order); at != 0 || e != want {
		t.Errorf("K2: Take(%d) is %d %d, not 0 %d", order, at, e, want)
	}
}

func expectGive(t *testing.T, a *arena.Arena, at int, want api.Errno) {
	t.Helper()
	if e := a.Give(at); e != want {
		t.Errorf("K3: Give(%d) is %d, not %d", at, e, want)
	}
}

func expectSaid(t *testing.T, a *arena.Arena, free, greatest int, taken ...int) {
	t.Helper()
	if x := saidBy(a); x.free != free || x.greatest != greatest {
		t.Errorf("K4: Free is %d and Greatest %d, not %d and %d", x.free, x.greatest, free, greatest)
	}
	if l := a.Taken(); !slices.Equal(l, taken) {
		t.Errorf("K4: Taken is %v, not %v", l, taken)
	}
}

func TestNewEachOrder(t *testing.T) {
	for order := range 17 {
		a := alone(t, order)
		expectSaid(t, a, 1<<order, order)
		if order < 11 {
			expectAs(t, a, newPlain(order))
		}
		// It is one block: it can be taken whole.
		expectTake(t, a, order, 0)
		expectSaid(t, a, 0, -1, 0)
		if a.Order(0) != order {
			t.Errorf("K4: Order(0) is %d, not %d", a.Order(0), order)
		}
	}
}

func TestNewOddOrders(t *testing.T) {
	for _, order := range oddOrders {
		if a, e := arena.New(order); a != nil || e != api.ErrArg {
			t.Errorf("K1: New(%d) is %v %d", order, a, e)
		}
	}
}

func TestExamples(t *testing.T) {
	a := alone(t, 3)
	expectTake(t, a, 0, 0)
	expectTake(t, a, 1, 2)
	expectTake(t, a, 0, 1)
	if a.Free() != 4 || a.Greatest() != 2 {
		t.Errorf("K4: Free is %d and Greatest %d", a.Free(), a.Greatest())
	}
	expectNoTake(t, a, 3, api.ErrArenaFull)
	expectSaid(t, a, 4, 2, 0, 1, 2)
	expectGive(t, a, 1, api.OK)
	expectGive(t, a, 1, api.ErrArenaNone)
	expectTake(t, a, 0, 1)

	b := alone(t, 3)
	expectTake(t, b, 2, 0)
	expectTake(t, b, 2, 4)
	expectNoTake(t, b, 0, api.ErrArenaFull)
	expectGive(t, b, 0, api.OK)
	expectGive(t, b, 4, api.OK)
	expectSaid(t, b, 8, 3)
}

// TestOrderOfEachPlace has Order at each position of taken and free blocks, and outside
// the arena.
func TestOrderOfEachPlace(t *testing.T) {
	a := alone(t, 4)
	for _, order := range []int{2, 0, 1, 2} {
		if _, e := a.Take(order); e != api.OK {
			t.Fatalf("K2: Take(%d) is %d", order, e)
		}
	}
	// The blocks 0 to 3, 4, 6 and 7, 8 to 11 are taken.
	want := []int{2, -1, -1, -1, 0, -1, 1, -1, 2, -1, -1, -1, -1, -1, -1, -1}
	for at, n := range want {
		if a.Order(at) != n {
			t.Errorf("K4: Order(%d) is %d, not %d", at, a.Order(at), n)
		}
	}
	for _, at := range slices.Concat(farPlaces, []int{16, 17, 24, 32}) {
		if a.Order(at) != -1 {
			t.Errorf("K4: Order(%d) is %d outside the arena", at, a.Order(at))
		}
	}
	expectSaid(t, a, 5, 2, 0, 4, 6, 8)
	expectGive(t, a, 6, api.OK)
	if a.Order(6) != -1 || a.Order(4) != 0 {
		t.Errorf("K4: Order(6) is %d and Order(4) %d", a.Order(6), a.Order(4))
	}
}

// scribble writes into all of a result's memory, the spare capacity too.
func scribble(l []int) {
	l = l[:cap(l)]
	for i := range l {
		l[i] = -77
	}
	_ = append(l, 5)
}

func TestTakenIsNewMemory(t *testing.T) {
	for _, order := range []int{0, 1, 3, 6} {
		a, p := made(t, order)
		expectAs(t, a, p)
		scribble(a.Taken())
		for range 1<<order - order {
			a.Take(0)
			p.take(0)
			x, y := a.Taken(), a.Taken()
			scribble(x)
			if !slices.Equal(y, p.places()) {
				t.Errorf("R3: two results of Taken share memory: %v", y)
			}
			scribble(y)
			expectAs(t, a, p)
		}
		// What was returned stays as it was.
		kept := a.Taken()
		want := slices.Clone(kept)
		for _, at := range want {
			expectGive(t, a, at, api.OK)
		}
		a.Take(order)
		if !slices.Equal(kept, want) {
			t.Errorf("R3: a result of Taken has become %v", kept)
		}
	}
}
