package heap

import (
	"cmp"
	"math"
	"slices"
	"testing"

	"haggler/api"
)

// most is how many items a heap has room for at most.
const most = 1000

// item is an item of a key and a prio.
func item(key, prio int) api.Item { return api.Item{Key: key, Prio: prio} }

// heapOf is a heap with just the room for some items, pushed in their order.
func heapOf(t *testing.T, items ...api.Item) *Heap {
	t.Helper()
	h := New(max(1, len(items)))
	for _, x := range items {
		if err := h.Push(x.Key, x.Prio); err != api.OK {
			t.Fatalf("Push(%d, %d) = %d; want 0", x.Key, x.Prio, err)
		}
	}
	return h
}

// expectPush holds what Push answers, and how many items there are behind it.
func expectPush(t *testing.T, h *Heap, key, prio int, want api.Errno, wantLen int) {
	t.Helper()
	if err := h.Push(key, prio); err != want || h.Len() != wantLen {
		t.Errorf("Push(%d, %d) = %d, and then Len() = %d; want %d, %d", key, prio, err, h.Len(), want, wantLen)
	}
}

// expectAll holds that a heap has these items, told by their keys.
func expectAll(t *testing.T, h *Heap, want ...api.Item) {
	t.Helper()
	if got := h.All(); !slices.Equal(got, want) || h.Len() != len(want) {
		t.Errorf("All() = %v, Len() = %d; want %v", got, h.Len(), want)
	}
}

// expectPops holds that these items are popped, in this order, and no more.
func expectPops(t *testing.T, h *Heap, want ...api.Item) {
	t.Helper()
	for i, x := range want {
		top, isTop := h.Top()
		if got, is := h.Pop(); got != x || !is || top != x || !isTop || h.Len() != len(want)-i-1 {
			t.Fatalf("pop %d: Top() = %v, %t, Pop() = %v, %t, and then Len() = %d; want %v", i, top, isTop, got, is, h.Len(), x)
		}
	}
	expectNothing(t, h, 0, 1, -1)
}

// expectNothing holds that a heap has no items, and tells nothing of these keys.
func expectNothing(t *testing.T, h *Heap, keys ...int) {
	t.Helper()
	if x, is := h.Top(); x != (api.Item{}) || is {
		t.Errorf("Top() = %v, %t; want nothing", x, is)
	}
	if x, is := h.Pop(); x != (api.Item{}) || is {
		t.Errorf("Pop() = %v, %t; want nothing", x, is)
	}
	for _, key := range keys {
		expectNone(t, h, key)
	}
	expectAll(t, h)
}

// expectNone holds that a heap has no item of a key.
func expectNone(t *testing.T, h *Heap, key int) {
	t.Helper()
	if prio, is := h.Prio(key); prio != 0 || is {
		t.Errorf("Prio(%d) = %d, %t; want nothing", key, prio, is)
	}
	before := h.All()
	if h.Change(key, 7) || h.Remove(key) || !slices.Equal(h.All(), before) {
		t.Errorf("an item of key %d was there, or came, or went", key)
	}
}

// expectWhole holds that a heap's places are those of its items, and no more, and
// that none is ahead of the one above it: what pops tell may hide that, for each
// puts some things right.
func expectWhole(t *testing.T, h *Heap) {
	t.Helper()
	if len(h.places) != len(h.items) {
		t.Fatalf("%d places of %d items", len(h.places), len(h.items))
	}
	for at, x := range h.items {
		if place, is := h.places[x.Key]; place != at || !is {
			t.Fatalf("place %d, %t of key %d; want %d", place, is, x.Key, at)
		}
		if at > 0 && sorted([]api.Item{x, h.items[(at-1)/2]})[0] == x {
			t.Fatalf("%v is ahead of the one above it: %v", x, h.items)
		}
	}
}

// I1: heaps, and rooms that may not be.
func TestNew(t *testing.T) {
	for _, room := range []int{math.MinInt, math.MinInt + 1, -1001, -1000, -2, -1, 0, 1001, 1002, 2000, 1 << 20, 1 << 32, 1<<32 + 1, 1 << 40, math.MaxInt - 1, math.MaxInt} {
		if h := New(room); h != nil {
			t.Errorf("New(%d) is a heap", room)
		}
	}
	for room := 1; room <= most; room++ {
		h := New(room)
		if h == nil {
			t.Fatalf("New(%d) is none", room)
		}
		expectNothing(t, h, 0, 1, room)
	}
}

// I1: each heap has just the room that it was made with, again and again.
func TestRoom(t *testing.T) {
	for _, room := range []int{1, 2, 3, 4, 7, 8, 9, 255, 256, 257, 999, 1000} {
		h := New(room)
		for range 3 {
			for key := range room {
				expectPush(t, h, key, key%5, api.OK, key+1)
			}
			before := h.All()
			expectPush(t, h, room, 9, api.ErrFull, room)
			expectPush(t, h, -1, -9, api.ErrFull, room)
			expectPush(t, h, 0, 9, api.ErrArg, room)
			if !slices.Equal(h.All(), before) {
				t.Fatal("a push that failed changed something")
			}
			h.Pop()
			expectPush(t, h, room, 9, api.OK, room)
			expectPush(t, h, -1, 9, api.ErrFull, room)
			h.Remove(room)
			expectPush(t, h, -1, 9, api.OK, room)
			h.Change(-1, -9)
			expectPush(t, h, room, 9, api.ErrFull, room)
			for h.Len() > 0 {
				h.Pop()
			}
		}
	}
}

// I1: what is there may not be pushed, whether or not there is room; any key
// and any prio may be pushed else.
func TestPushByHand(t *testing.T) {
	h := New(3)
	expectPush(t, h, 5, 10, api.OK, 1)
	expectPush(t, h, 5, 10, api.ErrArg, 1)
	expectPush(t, h, 5, 99, api.ErrArg, 1)
	expectAll(t, h, item(5, 10))
	expectPush(t, h, math.MinInt, math.MaxInt, api.OK, 2)
	expectPush(t, h, math.MaxInt, math.MinInt, api.OK, 3)
	expectAll(t, h, item(math.MinInt, math.MaxInt), item(5, 10), item(math.MaxInt, math.MinInt))
	expectPush(t, h, 5, 99, api.ErrArg, 3)
	expectPush(t, h, math.MinInt, 1, api.ErrArg, 3)
	expectPush(t, h, math.MaxInt, 1, api.ErrArg, 3)
	expectPush(t, h, 6, math.MaxInt, api.ErrFull, 3)
	expectPush(t, h, 0, 0, api.ErrFull, 3)
	expectAll(t, h, item(math.MinInt, math.MaxInt), item(5, 10), item(math.MaxInt, math.MinInt))
	expectPops(t, h, item(math.MinInt, math.MaxInt), item(5, 10), item(math.MaxInt, math.MinInt))
	expectPush(t, h, 5, 0, api.OK, 1)
	expectPush(t, h, 0, 0, api.OK, 2)
	expectPush(t, h, 0, 0, api.ErrArg, 2)
	expectPops(t, h, item(0, 0), item(5, 0))
}

// I2: the example, and what is most urgent at the numbers' edges.
func TestPopByHand(t *testing.T) {
	expectPops(t, heapOf(t, item(3, 5), item(1, 7), item(2, 7)), item(1, 7), item(2, 7), item(3, 5))
	expectPops(t, heapOf(t, item(0, 0)), item(0, 0))
	expectPops(t, heapOf(t, item(9, 0), item(-9, 0), item(0, 0)), item(-9, 0), item(0, 0), item(9, 0))
	expectPops(t, heapOf(t, item(1, -1), item(2, 0), item(3, 1)), item(3, 1), item(2, 0), item(1, -1))
	expectPops(t, heapOf(t, item(1, math.MinInt), item(2, math.MaxInt), item(3, -1), item(4, 1), item(5, 0)),
		item(2, math.MaxInt), item(4, 1), item(5, 0), item(3, -1), item(1, math.MinInt))
	expectPops(t, heapOf(t, item(math.MaxInt, 4), item(0, 4), item(math.MinInt, 4), item(1, 4), item(-1, 4)),
		item(math.MinInt, 4), item(-1, 4), item(0, 4), item(1, 4), item(math.MaxInt, 4))
	expectPops(t, heapOf(t, item(math.MinInt, math.MinInt), item(math.MaxInt, math.MaxInt), item(math.MaxInt-1, math.MaxInt), item(math.MinInt+1, math.MinInt)),
		item(math.MaxInt-1, math.MaxInt), item(math.MaxInt, math.MaxInt), item(math.MinInt, math.MinInt), item(math.MinInt+1, math.MinInt))
}

// I2: Top takes nothing.
func TestTopStays(t *testing.T) {
	h := heapOf(t, item(3, 5), item(1, 7), item(2, 7))
	for range 5 {
		if x, is := h.Top(); x != item(1, 7) || !is {
			t.Errorf("Top() = %v, %t; want {1 7}", x, is)
		}
	}
	expectAll(t, h, item(1, 7), item(2, 7), item(3, 5))
}

// I3: what Change, Remove and Prio tell, and what is there then.
func TestChangeByHand(t *testing.T) {
	h := heapOf(t, item(3, 5), item(1, 7), item(2, 7), item(0, 0))
	if !h.Change(3, 9) || !h.Change(1, math.MinInt) || !h.Change(2, 7) || h.Change(4, 9) || h.Change(-1, 9) {
		t.Error("Change tells something else")
	}
	expectAll(t, h, item(0, 0), item(1, math.MinInt), item(2, 7), item(3, 9))
	for _, x := range h.All() {
		if prio, is := h.Prio(x.Key); prio != x.Prio || !is {
			t.Errorf("Prio(%d) = %d, %t; want %d", x.Key, prio, is, x.Prio)
		}
	}
	for _, key := range []int{4, -1, 9, math.MinInt, math.MaxInt} {
		expectNone(t, h, key)
	}
	if !h.Remove(2) || h.Remove(2) || h.Change(2, 1) {
		t.Error("Remove tells something else")
	}
	expectNone(t, h, 2)
	expectAll(t, h, item(0, 0), item(1, math.MinInt), item(3, 9))
	expectPush(t, h, 2, -1, api.OK, 4)
	expectPops(t, h, item(3, 9), item(0, 0), item(2, -1), item(1, math.MinInt))
	expectNone(t, h, 3)
}

// I3: what is taken leaves all others where they may stand. The one that comes
// to its place may have to rise, for it is from another part of the tree.
func TestRemoveMakesRise(t *testing.T) {
	h := heapOf(t, item(0, 100), item(1, 10), item(2, 90), item(3, 9), item(4, 8), item(5, 89), item(6, 88))
	if !h.Remove(3) {
		t.Error("3 was not there")
	}
	expectPops(t, h, item(0, 100), item(2, 90), item(5, 89), item(6, 88), item(1, 10), item(4, 8))
	h = heapOf(t, item(0, 100), item(1, 10), item(2, 90), item(3, 9), item(4, 8), item(5, 89), item(6, 1))
	if !h.Remove(6) || !h.Remove(4) {
		t.Error("6 or 4 was not there")
	}
	expectPush(t, h, 6, 1, api.OK, 6)
	expectPush(t, h, 7, 0, api.OK, 7)
	expectPops(t, h, item(0, 100), item(2, 90), item(5, 89), item(1, 10), item(3, 9), item(6, 1), item(7, 0))
}

// I3: of some items each is removed, changed, or popped ahead of the others.
func TestEachOfMany(t *testing.T) {
	for size := 1; size <= 40; size++ {
		var items []api.Item
		for i := range size {
			items = append(items, item(i, i*7%11))
		}
		for key := range size {
			h := heapOf(t, items...)
			if !h.Remove(key) {
				t.Fatalf("%d was not there", key)
			}
			expectWhole(t, h)
			rest := slices.DeleteFunc(slices.Clone(items), func(x api.Item) bool { return x.Key == key })
			expectAll(t, h, rest...)
			expectPops(t, h, sorted(rest)...)
			for prio := -1; prio <= 11; prio++ {
				h = heapOf(t, items...)
				changed := slices.Clone(items)
				changed[key].Prio = prio
				if !h.Change(key, prio) {
					t.Fatalf("%d was not there", key)
				}
				expectWhole(t, h)
				expectPops(t, h, sorted(changed)...)
			}
		}
	}
}

// I1 to I3: a nil heap, and one that New did not make.
func TestNoHeap(t *testing.T) {
	for range 2 {
		for _, h := range []*Heap{nil, {}} {
			expectNothing(t, h, 0, 1, -1, math.MinInt, math.MaxInt)
			expectPush(t, h, 0, 0, api.ErrFull, 0)
			expectPush(t, h, 1, 7, api.ErrFull, 0)
		}
	}
}

// sorted are items, the most urgent one first.
func sorted(items []api.Item) []api.Item {
	return slices.SortedFunc(slices.Values(items), func(a, b api.Item) int {
		return cmp.Or(cmp.Compare(b.Prio, a.Prio), cmp.Compare(a.Key, b.Key))
	})
}

// orders are all orders of some items.
func orders(items []api.Item) [][]api.Item {
	if len(items) == 0 {
		return [][]api.Item{nil}
	}
	var l [][]api.Item
	for i, x := range items {
		for _, rest := range orders(slices.Concat(items[:i], items[i+1:])) {
			l = append(l, append(rest, x))
		}
	}
	return l
}

// I4: in what order items are pushed makes no difference.
func TestOrders(t *testing.T) {
	for _, items := range [][]api.Item{
		{item(1, 1), item(2, 2), item(3, 3), item(4, 4), item(5, 5), item(6, 6)},
		{item(1, 1), item(2, 2), item(3, 1), item(4, 2), item(5, 1), item(6, 2)},
		{item(1, 0), item(2, 0), item(3, 0), item(4, 0), item(5, 0), item(6, 0)},
		{item(1, 6), item(2, 5), item(3, 4), item(4, 3), item(5, 2), item(6, 1), item(7, 0)},
		{item(-3, math.MinInt), item(-2, math.MaxInt), item(-1, 0), item(0, math.MaxInt), item(1, math.MinInt)},
	} {
		want := sorted(items)
		for _, order := range orders(items) {
			h := heapOf(t, order...)
			expectWhole(t, h)
			expectAll(t, h, items...)
			expectPops(t, h, want...)
		}
	}
}

// I4: nor does the order in which they are changed.
func TestOrdersOfChanges(t *testing.T) {
	items := []api.Item{item(1, 5), item(2, 1), item(3, 4), item(4, 1), item(5, 3), item(6, 0)}
	changes := []api.Item{item(1, 0), item(2, 5), item(3, 3), item(4, 3), item(6, 9)}
	for _, order := range orders(changes) {
		h := heapOf(t, items...)
		for _, x := range order {
			if !h.Change(x.Key, x.Prio) {
				t.Fatalf("%d was not there", x.Key)
			}
		}
		expectPops(t, h, item(6, 9), item(2, 5), item(3, 3), item(4, 3), item(5, 3), item(1, 0))
	}
}

// maker makes numbers, the same ones each time.
type maker struct{ state uint32 }

// below is a number from 0 to n-1.
func (m *maker) below(n int) int {
	m.state = m.state*1664525 + 1013904223
	return int(m.state>>8) % n
}

// plain is a heap that is reckoned in another way: items in no order, which are
// all gone through each time.
type plain struct {
	room  int
	items []api.Item
}

func (p *plain) find(key int) int {
	return slices.IndexFunc(p.items, func(x api.Item) bool { return x.Key == key })
}

func (p *plain) push(key, prio int) api.Errno {
	switch {
	case p.find(key) >= 0:
		return api.ErrArg
	case len(p.items) == p.room:
		return api.ErrFull
	}
	p.items = append(p.items, item(key, prio))
	return api.OK
}

func (p *plain) top() (api.Item, bool) {
	if len(p.items) == 0 {
		return api.Item{}, false
	}
	return sorted(p.items)[0], true
}

func (p *plain) pop() (api.Item, bool) {
	x, is := p.top()
	p.remove(x.Key)
	return x, is
}

func (p *plain) change(key, prio int) bool {
	at := p.find(key)
	if at >= 0 {
		p.items[at].Prio = prio
	}
	return at >= 0
}

func (p *plain) remove(key int) bool {
	at := p.find(key)
	if at >= 0 {
		p.items = slices.Delete(p.items, at, at+1)
	}
	return at >= 0
}

func (p *plain) all() []api.Item {
	return slices.SortedFunc(slices.Values(p.items), func(a, b api.Item) int { return cmp.Compare(a.Key, b.Key) })
}

// both does one thing to a heap and to a plain one, and holds that they tell the
// same.
func both(t *testing.T, h *Heap, p *plain, what, key, prio int) {
	t.Helper()
	same := true
	switch what {
	case 0, 1:
		same = h.Push(key, prio) == p.push(key, prio)
	case 2:
		x, is := h.Pop()
		y, want := p.pop()
		same = x == y && is == want
	case 3:
		same = h.Remove(key) == p.remove(key)
	default:
		same = h.Change(key, prio) == p.change(key, prio)
	}
	x, is := h.Top()
	if y, want := p.top(); !same || x != y || is != want || h.Len() != len(p.items) {
		t.Fatalf("doing %d with %d, %d: %t, Top() = %v, %t, Len() = %d; want %v, %t, %d", what, key, prio, same, x, is, h.Len(), y, want, len(p.items))
	}
	at := p.find(key)
	if prio, is := h.Prio(key); is != (at >= 0) || is && prio != p.items[at].Prio || !is && prio != 0 {
		t.Fatalf("Prio(%d) = %d, %t", key, prio, is)
	}
	expectWhole(t, h)
}

// I1 to I4: whatever is done, in whatever order, a heap is as a plain one.
func TestMade(t *testing.T) {
	m := &maker{}
	for range 300 {
		room := 1 + m.below([]int{4, 20, 60}[m.below(3)])
		keys := 1 + m.below(2*room)
		prios := 1 + m.below([]int{1, 3, 1000}[m.below(3)])
		h, p := New(room), &plain{room: room}
		pushes := m.below(3 * room)
		for i := range pushes + 150 {
			what := m.below(6)
			if i < pushes {
				what = 0
			}
			both(t, h, p, what, m.below(keys)-keys/2, m.below(prios)-prios/2)
		}
		expectWhole(t, h)
		expectAll(t, h, p.all()...)
		expectPops(t, h, sorted(p.items)...)
	}
}

// I1 to I4: all that may be done in a few steps with a few items.
func TestAllSteps(t *testing.T) {
	var steps [][3]int
	for key := range 3 {
		steps = append(steps, [3]int{0, key, 1}, [3]int{0, key, 2}, [3]int{3, key, 0}, [3]int{4, key, 0}, [3]int{4, key, 3})
	}
	steps = append(steps, [3]int{2, 0, 0})
	count := len(steps)
	for n := range count * count * count * count {
		h, p := New(2), &plain{room: 2}
		for rest := n; rest > 0; rest /= count {
			step := steps[rest%count]
			both(t, h, p, step[0], step[1], step[2])
		}
		expectAll(t, h, p.all()...)
	}
}

// I4: a full heap, whose items are pushed in several orders.
func TestFull(t *testing.T) {
	m := &maker{state: 7}
	var items []api.Item
	for key := range most {
		items = append(items, item(key-500, m.below(300)-150))
	}
	want := sorted(items)
	back := slices.Clone(want)
	slices.Reverse(back)
	mixed := slices.Clone(items)
	for i := range mixed {
		k := i + m.below(len(mixed)-i)
		mixed[i], mixed[k] = mixed[k], mixed[i]
	}
	for _, order := range [][]api.Item{items, want, back, mixed} {
		h := heapOf(t, order...)
		expectPush(t, h, most, 0, api.ErrFull, most)
		expectAll(t, h, items...)
		expectPops(t, h, want...)
		expectWhole(t, h)
	}
}

// I3: what changes in a full heap comes to stand where it may.
func TestChangesMade(t *testing.T) {
	m := &maker{state: 3}
	for range 50 {
		h, p := New(60), &plain{room: 60}
		for key := range 60 {
			both(t, h, p, 0, key, m.below(100))
		}
		for range 40 {
			both(t, h, p, 4, m.below(60), m.below(100))
		}
		expectPops(t, h, sorted(p.items)...)
	}
}

// I3, R3: what All told is its owner's, spare room too.
func TestNewMemory(t *testing.T) {
	h := heapOf(t, item(3, 5), item(1, 7), item(2, 7))
	first, second := h.All(), h.All()
	spoil(first)
	if !slices.Equal(second, []api.Item{item(1, 7), item(2, 7), item(3, 5)}) {
		t.Errorf("two answers share something: %v", second)
	}
	expectAll(t, h, second...)
	third := h.All()
	h.Change(3, 99)
	h.Pop()
	h.Push(4, 1)
	if !slices.Equal(third, second) {
		t.Errorf("what was told changed: %v", third)
	}
	spoil(second)
	expectPops(t, h, item(1, 7), item(2, 7), item(4, 1))
}

// spoil writes into a list and its spare room, and grows it.
func spoil(l []api.Item) {
	for i := range l[:cap(l)] {
		l[:cap(l)][i] = item(-7, -7)
	}
	_ = append(l, item(-8, -8))
}

// R4: heaps know nothing of one another, and do the same for the same.
func TestApart(t *testing.T) {
	a, b := New(2), New(2)
	expectPush(t, a, 1, 1, api.OK, 1)
	expectPush(t, a, 2, 2, api.OK, 2)
	expectNothing(t, b, 1, 2)
	expectPush(t, b, 1, 9, api.OK, 1)
	a.Change(1, 5)
	b.Remove(1)
	expectPops(t, a, item(1, 5), item(2, 2))
	for range 20 {
		h := heapOf(t, item(4, 0), item(3, 0), item(9, 0), item(7, 1), item(1, -1))
		expectAll(t, h, item(1, -1), item(3, 0), item(4, 0), item(7, 1), item(9, 0))
		expectPops(t, h, item(7, 1), item(3, 0), item(4, 0), item(9, 0), item(1, -1))
	}
}
