package queue

import (
	"math"
	"slices"
	"testing"

	"haggler/api"
)

// wrong are numbers that are neither a sku, nor a prio, a room, an age or a tick.
var wrong = []int{math.MinInt, math.MinInt + 1, -1 << 40, -1001, -1000, -2, -1, 1<<40 + 1, 1 << 41, math.MaxInt - 1, math.MaxInt}

// queueOf is a queue that New must make.
func queueOf(t *testing.T, room, age int) *Queue {
	t.Helper()
	q := New(room, age)
	if q == nil {
		t.Fatalf("New(%d, %d) is none", room, age)
	}
	return q
}

// expectWant holds what Want answers.
func expectWant(t *testing.T, q *Queue, sku, prio, now int, want api.Errno) {
	t.Helper()
	if err := q.Want(sku, prio, now); err != want {
		t.Errorf("Want(%d, %d, %d) = %d; want %d", sku, prio, now, err, want)
	}
}

// expectSkus holds which skus wait, and which are dirty.
func expectSkus(t *testing.T, q *Queue, waiting, dirty []int) {
	t.Helper()
	if got := q.Waiting(); !slices.Equal(got, waiting) {
		t.Errorf("Waiting() = %v; want %v", got, waiting)
	}
	if got := q.Dirty(); !slices.Equal(got, dirty) {
		t.Errorf("Dirty() = %v; want %v", got, dirty)
	}
}

// expectNext holds that these skus are told at a tick, in this order.
func expectNext(t *testing.T, q *Queue, now int, want ...int) {
	t.Helper()
	for i, sku := range want {
		if got, is := q.Next(now); got != sku || !is {
			t.Errorf("Next(%d) number %d = %d, %t; want %d, true", now, i, got, is, sku)
		}
	}
}

// expectNone holds that no sku is told at a tick.
func expectNone(t *testing.T, q *Queue, now int) {
	t.Helper()
	if got, is := q.Next(now); got != 0 || is {
		t.Errorf("Next(%d) = %d, %t; want 0, false", now, got, is)
	}
}

// expectAll holds that these skus are told, in this order, and no more.
func expectAll(t *testing.T, q *Queue, now int, want ...int) {
	t.Helper()
	expectNext(t, q, now, want...)
	expectNone(t, q, now)
	expectSkus(t, q, nil, nil)
}

// expectDrop holds what Drop answers.
func expectDrop(t *testing.T, q *Queue, sku int, want bool) {
	t.Helper()
	if got := q.Drop(sku); got != want {
		t.Errorf("Drop(%d) = %t; want %t", sku, got, want)
	}
}

// J1: queues, and rooms and ages that may not be.
func TestNew(t *testing.T) {
	right := []int{1, 2, 10, 500, 999, 1000}
	for _, n := range slices.Concat(wrong, []int{0, 1001, 1002, 1 << 20, 1 << 40}) {
		for _, other := range slices.Concat(right, wrong) {
			if New(n, other) != nil || New(other, n) != nil {
				t.Errorf("New(%d, %d), or New(%d, %d), is a queue", n, other, other, n)
			}
		}
	}
	for _, room := range right {
		for _, age := range right {
			q := queueOf(t, room, age)
			expectSkus(t, q, nil, nil)
			expectDrop(t, q, 0, false)
			expectNone(t, q, 0)
			expectSkus(t, q, nil, nil)
		}
	}
}

// J1, J2: a queue has just the room that it was made with.
func TestRoom(t *testing.T) {
	for _, room := range []int{1, 2, 3, 7, 64, 500, 998, 999} {
		q := queueOf(t, room, 1)
		var waiting []int
		for sku := range room {
			expectWant(t, q, sku, 0, 0, api.OK)
			waiting = append(waiting, sku)
		}
		expectWant(t, q, 999, 1000, 0, api.ErrFull)
		expectSkus(t, q, waiting, []int{999})
		expectWant(t, q, 0, 0, 0, api.OK)
		expectNext(t, q, 0, 0)
		expectSkus(t, q, append(waiting[1:], 999), nil)
		expectWant(t, q, 0, 1000, 0, api.ErrFull)
		expectSkus(t, q, append(waiting[1:], 999), []int{0})
	}
	q := queueOf(t, 1000, 1000)
	var all []int
	for sku := 999; sku >= 0; sku-- {
		expectWant(t, q, sku, 5, 5, api.OK)
		all = append(all, 999-sku)
	}
	expectSkus(t, q, all, nil)
	expectAll(t, q, 0, all...)
}

// J2: what may not be wanted changes nothing, whether the sku waits, is dirty, or
// neither, and whether there is room or not.
func TestWantWrong(t *testing.T) {
	q := queueOf(t, 2, 10)
	refuse := func() {
		t.Helper()
		waiting, dirty := q.Waiting(), q.Dirty()
		for _, n := range wrong {
			expectWant(t, q, n, 1000, 0, api.ErrArg)
			for _, sku := range []int{0, 3, 4, 5, 999} {
				expectWant(t, q, sku, n, 0, api.ErrArg)
				expectWant(t, q, sku, 1000, n, api.ErrArg)
				expectWant(t, q, sku, n, n, api.ErrArg)
			}
		}
		for _, sku := range []int{0, 3, 4, 5, 999} {
			expectWant(t, q, 1000, sku, 0, api.ErrArg)
			expectWant(t, q, sku, 1001, 0, api.ErrArg)
			expectWant(t, q, sku, 1<<40, 0, api.ErrArg)
		}
		expectWant(t, q, 1<<40, 0, 0, api.ErrArg)
		expectSkus(t, q, waiting, dirty)
	}
	refuse()
	expectWant(t, q, 3, 0, 7, api.OK)
	refuse()
	expectWant(t, q, 4, 0, 6, api.OK)
	refuse()
	expectWant(t, q, 5, 0, 5, api.ErrFull)
	refuse()
	expectNext(t, q, 5, 4, 5, 3)
	refuse()
	expectSkus(t, q, nil, nil)
}

// J2: the least and the greatest of what may be wanted.
func TestWantEdges(t *testing.T) {
	q := queueOf(t, 9, 1000)
	expectWant(t, q, 0, 0, 0, api.OK)
	expectWant(t, q, 999, 0, 0, api.OK)
	expectWant(t, q, 1, 1000, 0, api.OK)
	expectWant(t, q, 2, 0, 1<<40, api.OK)
	expectWant(t, q, 3, 1000, 1<<40, api.OK)
	expectWant(t, q, 4, 1000, 999999, api.OK)
	expectWant(t, q, 5, 1000, 1000001, api.OK)
	expectSkus(t, q, []int{0, 1, 2, 3, 4, 5, 999}, nil)
	expectAll(t, q, 0, 1, 4, 0, 999, 5, 3, 2)
}

// J2: what waits has the greatest weight with which it was ever wanted.
func TestWantAgain(t *testing.T) {
	for _, again := range []struct {
		prio, now int
		ahead     bool
	}{{3, 20, false}, {3, 21, false}, {2, 20, false}, {0, 0, false}, {1, 0, false}, {2, 9, false}, {2, 10, false}, {4, 28, true}, {4, 29, false}, {2, 8, true}, {3, 18, true}, {1000, 0, true}, {0, 1 << 40, false}} {
		q := queueOf(t, 2, 10)
		expectWant(t, q, 8, 3, 20, api.OK) // 10
		expectWant(t, q, 7, 2, 9, api.OK)  // 11
		expectWant(t, q, 8, again.prio, again.now, api.OK)
		expectSkus(t, q, []int{7, 8}, nil)
		if again.ahead {
			expectAll(t, q, 0, 8, 7)
		} else {
			expectAll(t, q, 0, 7, 8)
		}
	}
}

// J2: what waits is wanted again, though there is no room; what is dirty stays so
// till there is, and may be wanted into room that was left.
func TestWantFull(t *testing.T) {
	q := queueOf(t, 2, 10)
	expectWant(t, q, 4, 0, 0, api.OK)
	expectWant(t, q, 6, 0, 0, api.OK)
	expectWant(t, q, 5, 1000, 0, api.ErrFull)
	expectWant(t, q, 5, 1000, 0, api.ErrFull)
	expectWant(t, q, 6, 1, 9, api.OK)
	expectWant(t, q, 3, 0, 0, api.ErrFull)
	expectSkus(t, q, []int{4, 6}, []int{3, 5})
	expectDrop(t, q, 4, true)
	expectSkus(t, q, []int{6}, []int{3, 5})
	expectWant(t, q, 5, 2, 9, api.OK)
	expectSkus(t, q, []int{5, 6}, []int{3})
	expectWant(t, q, 4, 0, 0, api.ErrFull)
	expectSkus(t, q, []int{5, 6}, []int{3, 4})
	expectAll(t, q, 0, 5, 6, 3, 4)
}

// J2: how urgently what is dirty was wanted is not kept.
func TestDirtyForgets(t *testing.T) {
	q := queueOf(t, 1, 10)
	expectWant(t, q, 1, 0, 0, api.OK)
	expectWant(t, q, 9, 1000, 0, api.ErrFull)
	expectWant(t, q, 8, 0, 0, api.ErrFull)
	expectAll(t, q, 0, 1, 8, 9)
	expectWant(t, q, 1, 0, 0, api.OK)
	expectWant(t, q, 9, 1000, 0, api.ErrFull)
	expectDrop(t, q, 1, true)
	expectWant(t, q, 9, 0, 0, api.OK)
	expectSkus(t, q, []int{9}, nil)
	expectNext(t, q, 0, 9)
}

// J3: the example; and what weighs most, of as much the least sku.
func TestNextByHand(t *testing.T) {
	q := queueOf(t, 1, 10)
	expectWant(t, q, 3, 0, 0, api.OK)
	expectWant(t, q, 5, 0, 0, api.ErrFull)
	expectSkus(t, q, []int{3}, []int{5})
	expectNext(t, q, 0, 3)
	expectSkus(t, q, []int{5}, nil)
	expectAll(t, q, 0, 5)
	q = queueOf(t, 9, 10)
	for i, want := range [][3]int{{7, 1, 20}, {2, 0, 10}, {9, 2, 30}, {4, 3, 41}, {0, 0, 11}, {5, 9, 99}, {6, 0, 8}, {1, 1, 21}} {
		expectWant(t, q, want[0], want[1], want[2], api.OK)
		if got := len(q.Waiting()); got != i+1 {
			t.Errorf("%d skus wait; want %d", got, i+1)
		}
	}
	expectAll(t, q, 50, 6, 5, 2, 7, 9, 0, 1, 4)
}

// J3: what is dirty weighs as if it were wanted with prio 0 at the tick of Next,
// which is taken as the nearest one.
func TestNextFills(t *testing.T) {
	const last = 1 << 40
	for _, x := range []struct{ now, tick int }{
		{math.MinInt, 0}, {-last, 0}, {-2, 0}, {-1, 0}, {0, 0}, {1, 1}, {7, 7},
		{last - 1, last - 1}, {last, last}, {last + 1, last}, {2 * last, last}, {math.MaxInt, last},
	} {
		for shift := -1; shift <= 1; shift++ {
			if x.tick+shift < 0 || x.tick+shift > last {
				continue
			}
			for _, other := range []int{3, 5} {
				q := queueOf(t, 2, 10)
				expectWant(t, q, 9, 1000, 0, api.OK)
				expectWant(t, q, other, 0, x.tick+shift, api.OK)
				expectWant(t, q, 4, 1000, 0, api.ErrFull)
				expectNext(t, q, x.now, 9)
				expectSkus(t, q, []int{min(4, other), max(4, other)}, nil)
				first := 4
				if shift < 0 || shift == 0 && other < 4 {
					first = other
				}
				expectAll(t, q, x.now, first, 4+other-first)
			}
		}
	}
}

// J3: the least dirty skus wait, as many as there is room for, also if none waits.
func TestNextFillsAll(t *testing.T) {
	q := queueOf(t, 3, 10)
	for sku := 9; sku >= 2; sku-- {
		q.Want(sku, 5, 5)
	}
	expectSkus(t, q, []int{7, 8, 9}, []int{2, 3, 4, 5, 6})
	expectDrop(t, q, 8, true)
	expectDrop(t, q, 3, true)
	expectSkus(t, q, []int{7, 9}, []int{2, 4, 5, 6})
	expectNext(t, q, 50, 7)
	expectSkus(t, q, []int{2, 4, 9}, []int{5, 6})
	for _, sku := range []int{2, 4, 9} {
		expectDrop(t, q, sku, true)
	}
	expectSkus(t, q, nil, []int{5, 6})
	expectNone(t, q, 51)
	expectSkus(t, q, []int{5, 6}, nil)
	expectWant(t, q, 7, 0, 52, api.OK)
	expectAll(t, q, 53, 5, 6, 7)
	q = queueOf(t, 2, 10)
	for sku := range 6 {
		q.Want(sku, 0, 0)
	}
	q.Drop(0)
	q.Drop(1)
	expectNone(t, q, 0)
	expectSkus(t, q, []int{2, 3}, []int{4, 5})
	expectAll(t, q, 0, 2, 3, 4, 5)
}

// J4: what is dropped is neither any more.
func TestDrop(t *testing.T) {
	q := queueOf(t, 2, 10)
	expectWant(t, q, 5, 3, 0, api.OK)
	expectWant(t, q, 0, 2, 0, api.OK)
	expectWant(t, q, 7, 1, 0, api.ErrFull)
	expectWant(t, q, 6, 1, 0, api.ErrFull)
	for _, sku := range slices.Concat(wrong, []int{1, 4, 8, 999, 1000}) {
		expectDrop(t, q, sku, false)
	}
	expectSkus(t, q, []int{0, 5}, []int{6, 7})
	expectDrop(t, q, 7, true)
	expectDrop(t, q, 7, false)
	expectSkus(t, q, []int{0, 5}, []int{6})
	expectDrop(t, q, 5, true)
	expectDrop(t, q, 5, false)
	expectSkus(t, q, []int{0}, []int{6})
	expectDrop(t, q, 6, true)
	expectDrop(t, q, 0, true)
	expectDrop(t, q, 0, false)
	expectSkus(t, q, nil, nil)
	expectWant(t, q, 5, 0, 0, api.OK)
	expectWant(t, q, 0, 0, 1, api.OK)
	expectAll(t, q, 0, 5, 0)
}

// J1 to J4: a nil queue, and one that New did not make.
func TestNoQueue(t *testing.T) {
	for range 2 {
		for _, q := range []*Queue{nil, {}} {
			expectWant(t, q, 0, 0, 0, api.ErrArg)
			expectWant(t, q, -1, 0, 0, api.ErrArg)
			expectWant(t, q, 999, 1000, 1<<40, api.ErrArg)
			for _, n := range []int{math.MinInt, -1, 0, 1, math.MaxInt} {
				expectNone(t, q, n)
				expectDrop(t, q, n, false)
			}
			expectSkus(t, q, nil, nil)
		}
	}
}

// J5: what waits is told ahead of all that is wanted more than 1000 times age
// ticks later; of what is wanted just so much later it may be the other way.
func TestNoneWaitsForEver(t *testing.T) {
	for _, age := range []int{1, 2, 10, 999, 1000} {
		for _, since := range []int{0, 1, 12345} {
			q := queueOf(t, 6, age)
			expectWant(t, q, 5, 0, since, api.OK)
			expectWant(t, q, 4, 1000, since+1000*age+1, api.OK)
			expectWant(t, q, 6, 1000, since+1000*age, api.OK)
			expectWant(t, q, 3, 1000, since+1000*age, api.OK)
			expectWant(t, q, 7, 1000, since+1000*age-1, api.OK)
			expectWant(t, q, 9, 1000, 1<<40, api.OK)
			expectAll(t, q, 0, 7, 3, 5, 6, 4, 9)
			expectWant(t, q, 999, 0, since, api.OK)
			now := since + 1000*age
			for range 50 {
				now++
				q.Want(now%5, 1000, now)
			}
			expectNext(t, q, now, 999)
		}
	}
}

// maker makes numbers, the same ones each time.
type maker struct{ state uint32 }

// below is a number from 0 to n-1.
func (m *maker) below(n int) int {
	m.state = m.state*1664525 + 1013904223
	return int(m.state>>8) % n
}

// state is how a sku stands in a plain queue.
type state int

const (
	neither state = iota
	waits
	isDirty
)

// plain is a queue that is reckoned in another way: each of the skus in a line of
// a table, and all lines are gone through each time.
type plain struct {
	room, age int
	states    [1000]state
	weights   [1000]int
	// firsts are the least ticks of which the skus wait: what J5 speaks of.
	firsts [1000]int
}

func (p *plain) all(what state) []int {
	var skus []int
	for sku, is := range p.states {
		if is == what {
			skus = append(skus, sku)
		}
	}
	return skus
}

func (p *plain) hasRoom() bool { return len(p.all(waits)) < p.room }

func (p *plain) wait(sku, weight, now int) {
	p.states[sku], p.weights[sku], p.firsts[sku] = waits, weight, now
}

func (p *plain) want(sku, prio, now int) api.Errno {
	weight := prio*p.age - now
	switch {
	case p.states[sku] == waits:
		p.wait(sku, max(weight, p.weights[sku]), min(now, p.firsts[sku]))
	case p.hasRoom():
		p.wait(sku, weight, now)
	default:
		p.states[sku] = isDirty
		return api.ErrFull
	}
	return api.OK
}

func (p *plain) next(now int) (int, bool) {
	told, is := 0, false
	for _, sku := range p.all(waits) {
		if !is || p.weights[sku] > p.weights[told] {
			told, is = sku, true
		}
	}
	if is {
		p.states[told] = neither
	}
	for _, sku := range p.all(isDirty) {
		if p.hasRoom() {
			p.wait(sku, -now, now)
		}
	}
	return told, is
}

func (p *plain) drop(sku int) bool {
	is := p.states[sku] != neither
	p.states[sku] = neither
	return is
}

// step is one thing that may be done to a queue.
type step struct{ what, sku, prio, now int }

// both does one thing to a queue and to a plain one, and holds that they tell the
// same.
func both(t *testing.T, q *Queue, p *plain, s step) {
	t.Helper()
	same := true
	switch s.what {
	case 0:
		same = q.Want(s.sku, s.prio, s.now) == p.want(s.sku, s.prio, s.now)
	case 1:
		got, is := q.Next(s.now)
		if is {
			expectTurn(t, p, got)
		}
		told, want := p.next(s.now)
		same = got == told && is == want
	default:
		same = q.Drop(s.sku) == p.drop(s.sku)
	}
	if !same || !slices.Equal(q.Waiting(), p.all(waits)) || !slices.Equal(q.Dirty(), p.all(isDirty)) {
		t.Fatalf("doing %v: %t, Waiting() = %v, Dirty() = %v; want %v, %v", s, same, q.Waiting(), q.Dirty(), p.all(waits), p.all(isDirty))
	}
}

// expectTurn holds that no sku that waits was passed over for one that was wanted
// too late for that.
func expectTurn(t *testing.T, p *plain, told int) {
	t.Helper()
	for _, sku := range p.all(waits) {
		if p.firsts[told] > p.firsts[sku]+1000*p.age {
			t.Fatalf("%d, of tick %d, was told ahead of %d, of tick %d", told, p.firsts[told], sku, p.firsts[sku])
		}
	}
}

// expectEnd holds that both tell the same till there is nothing more.
func expectEnd(t *testing.T, q *Queue, p *plain, now int) {
	t.Helper()
	for range 1001 {
		both(t, q, p, step{what: 1, now: now})
	}
	expectSkus(t, q, nil, nil)
}

// J2 to J5: all that may be done in a few steps with a few skus.
func TestAllSteps(t *testing.T) {
	var steps []step
	for sku := range 3 {
		steps = append(steps, step{0, sku, 0, 1}, step{0, sku, 1, 4}, step{0, sku, 2, 1}, step{2, sku, 0, 0})
	}
	steps = append(steps, step{1, 0, 0, 0}, step{1, 0, 0, 2})
	count := len(steps)
	for n := range count * count * count * count {
		q, p := queueOf(t, 1+n%2, 2), &plain{room: 1 + n%2, age: 2}
		for rest := n; rest > 0; rest /= count {
			both(t, q, p, steps[rest%count])
		}
		for range 4 {
			both(t, q, p, step{what: 1, now: 1})
		}
	}
}

// J2 to J5: whatever is done, in whatever order, a queue is as a plain one.
func TestMade(t *testing.T) {
	m := &maker{}
	for round := range 120 {
		room := 1 + m.below([]int{3, 10, 40}[m.below(3)])
		age := 1 + m.below([]int{1, 10, 1000}[m.below(3)])
		skus := 1 + m.below(min(1000, 3*room))
		ticks := 1 + m.below([]int{3, 50, 5000 * age}[m.below(3)])
		prios := 1 + m.below([]int{2, 20, 1001}[m.below(3)])
		q, p := queueOf(t, room, age), &plain{room: room, age: age}
		for i := range 200 {
			// Ticks go on in half of the rounds, and jump about in the others.
			now := m.below(ticks)
			if round%2 == 0 {
				now = ticks/200*i + now/200
			}
			what := []int{0, 0, 0, 1, 1, 2}[m.below(6)]
			both(t, q, p, step{what, m.below(skus), m.below(prios), now})
		}
		if round%10 == 0 {
			expectEnd(t, q, p, ticks)
		}
	}
}

// J5: each of all the skus waits, or is dirty, till it is told, or dropped.
func TestNoneIsLost(t *testing.T) {
	for _, room := range []int{1, 4, 1000} {
		q := queueOf(t, room, 10)
		var told [1000]int
		for sku := 999; sku >= 0; sku-- {
			q.Want(sku, sku%7, 999-sku)
			q.Want(sku, sku%5, 999-sku)
		}
		if got := len(q.Waiting()) + len(q.Dirty()); got != 1000 || len(q.Waiting()) != room {
			t.Errorf("%d skus, %d of them wait; want 1000, %d", got, len(q.Waiting()), room)
		}
		for n := range 1000 {
			sku, is := q.Next(1000 + n)
			if !is {
				t.Fatalf("room %d: nothing was told at %d", room, n)
			}
			told[sku]++
		}
		for sku, times := range told {
			if times != 1 {
				t.Errorf("room %d: %d was told %d times", room, sku, times)
			}
		}
		expectNone(t, q, 2000)
		expectSkus(t, q, nil, nil)
	}
}

// spoil writes into a list and its spare room, and grows it.
func spoil(l []int) {
	for i := range l[:cap(l)] {
		l[:cap(l)][i] = -7
	}
	_ = append(l, -8)
}

// J4, R3: what Waiting and Dirty told is its owner's, spare room too.
func TestNewMemory(t *testing.T) {
	q := queueOf(t, 3, 10)
	for sku := range 6 {
		q.Want(sku, 0, 0)
	}
	waiting, dirty := q.Waiting(), q.Dirty()
	spoil(q.Waiting())
	spoil(q.Dirty())
	expectSkus(t, q, waiting, dirty)
	expectSkus(t, q, []int{0, 1, 2}, []int{3, 4, 5})
	q.Next(0)
	q.Drop(5)
	q.Want(9, 0, 0)
	if !slices.Equal(waiting, []int{0, 1, 2}) || !slices.Equal(dirty, []int{3, 4, 5}) {
		t.Errorf("what was told changed: %v, %v", waiting, dirty)
	}
	spoil(waiting)
	spoil(dirty)
	expectAll(t, q, 0, 1, 2, 3, 4, 9)
}

// R4: queues know nothing of one another, and do the same for the same.
func TestApart(t *testing.T) {
	a, b := queueOf(t, 1, 10), queueOf(t, 1, 1)
	expectWant(t, a, 1, 0, 0, api.OK)
	expectWant(t, a, 2, 0, 0, api.ErrFull)
	expectSkus(t, b, nil, nil)
	expectDrop(t, b, 1, false)
	expectDrop(t, b, 2, false)
	expectWant(t, b, 2, 0, 0, api.OK)
	expectSkus(t, a, []int{1}, []int{2})
	expectAll(t, b, 0, 2)
	expectAll(t, a, 0, 1, 2)
	for range 20 {
		q := queueOf(t, 2, 10)
		for _, sku := range []int{8, 3, 9, 1, 7, 2, 6} {
			q.Want(sku, 0, 0)
		}
		expectSkus(t, q, []int{3, 8}, []int{1, 2, 6, 7, 9})
		expectAll(t, q, 0, 3, 1, 2, 6, 7, 8, 9)
	}
}
