package outbox

import (
	"math"
	"math/rand"
	"slices"
	"testing"

	"haggler/api"
)

const (
	most = 1000000000000 // of a price
	end  = 1 << 40       // the last tick
)

// The states, as the chapter tells them.
const (
	stNone = 0
	stWait = 1
	stDone = 2
	stDead = 3
)

func out(version, price, tries, next, state int) api.Out {
	return api.Out{Version: version, Price: price, Tries: tries, Next: next, State: state}
}

func mailOf(sku, version, price int) api.Mail {
	return api.Mail{Sku: sku, Version: version, Price: price}
}

// prices are prices, noPrices numbers that are none.
func prices() []int { return []int{1, 2, 500, 1 << 31, 1 << 32, most - 1, most} }

func noPrices() []int {
	return []int{0, -1, -500, -most, most + 1, end, 2 * most, math.MaxInt, math.MinInt, math.MinInt + 1}
}

// numbers are ticks, and such as are none.
func numbers() []int {
	return []int{math.MinInt, math.MinInt + 1, -end, -1, 0, 1, 2, 39, 40, 41, 1 << 20, end - 64, end - 33, end - 32, end - 31, end - 1, end, end + 1, 2 * end, math.MaxInt - 1, math.MaxInt}
}

// states are those that there are, and others.
func states() []int { return []int{math.MinInt, -1, stNone, stWait, stDone, stDead, 4, math.MaxInt} }

// outs are all kinds of them: such as calls make, and others that they never would.
func outs() []api.Out {
	var l []api.Out
	for _, version := range []int{math.MinInt, -1, 0, 1, 3, math.MaxInt - 1} {
		for _, tries := range []int{math.MinInt, -65, -2, -1, 0, 1, 2, 3, 4, 5, 6, 64, math.MaxInt} {
			for _, next := range []int{math.MinInt, -1, 0, 40, end, end + 1, math.MaxInt} {
				for _, state := range states() {
					l = append(l, out(version, len(l)-100, tries, next, state))
				}
			}
		}
	}
	return l
}

// others are what stands beside the sku that is asked for.
func others() []api.Out {
	return []api.Out{out(3, 500, 2, 40, stWait), out(3, 501, 5, 0, stWait), out(3, 502, 5, 0, stDead)}
}

// boxOf is a box in which an out stands at a place, with others beside it.
func boxOf(sku int, o api.Out) []api.Out {
	b := slices.Concat(others(), others())[:5]
	b[sku] = o
	return b
}

// places are some of those that boxOf's boxes have, noPlaces numbers that no
// such box has.
func places() []int { return []int{0, 2, 4} }

func noPlaces() []int {
	return []int{math.MinInt, math.MinInt + 1, -end, -5, -2, -1, 5, 6, 1000, end, math.MaxInt - 1, math.MaxInt}
}

// tickOf is a number as a tick.
func tickOf(n int) int {
	switch {
	case n < 0:
		return 0
	case n > end:
		return end
	}
	return n
}

// sent is what is to be behind a sending, and whether there is mail; false at
// the end: it may not be sent.
func sent(o api.Out, now int) (api.Out, bool, bool) {
	if o.State != stWait || tickOf(now) < tickOf(o.Next) {
		return o, false, false
	}
	if o.Tries > 4 {
		o.State = stDead
		return o, false, true
	}
	waits := map[int]int{1: 2, 2: 4, 3: 8, 4: 16, 5: 32}
	o.Tries++
	by, is := waits[o.Tries]
	if !is {
		by = 1
	}
	o.Next = tickOf(tickOf(now) + by)
	return o, true, true
}

// expectIntend holds what Intend answers against what it is to answer.
func expectIntend(t *testing.T, b []api.Out, sku, price, now int, want []api.Out, wantErr api.Errno) {
	t.Helper()
	before := slices.Clone(b)
	if got, err := Intend(b, sku, price, now); !slices.Equal(got, want) || err != wantErr || !slices.Equal(b, before) {
		t.Errorf("Intend(%v, %d, %d, %d) = %v, %d; want %v, %d", before, sku, price, now, got, err, want, wantErr)
	}
}

func expectDue(t *testing.T, b []api.Out, now int, want ...int) {
	t.Helper()
	before := slices.Clone(b)
	if got := Due(b, now); !slices.Equal(got, want) || !slices.Equal(b, before) {
		t.Errorf("Due(%v, %d) = %v; want %v", before, now, got, want)
	}
}

func expectSend(t *testing.T, b []api.Out, sku, now int, want []api.Out, wantMail api.Mail, wantIs bool, wantErr api.Errno) {
	t.Helper()
	before := slices.Clone(b)
	if got, m, is, err := Send(b, sku, now); !slices.Equal(got, want) || m != wantMail || is != wantIs || err != wantErr || !slices.Equal(b, before) {
		t.Errorf("Send(%v, %d, %d) = %v, %v, %t, %d; want %v, %v, %t, %d", before, sku, now, got, m, is, err, want, wantMail, wantIs, wantErr)
	}
}

// expectUnsent holds that nothing may be sent.
func expectUnsent(t *testing.T, b []api.Out, sku, now int) {
	t.Helper()
	expectSend(t, b, sku, now, slices.Clone(b), api.Mail{}, false, api.ErrArg)
}

// answer is one of Ack, Reject and Revive, by its name.
type answer struct {
	name string
	call func(b []api.Out, sku, n int) ([]api.Out, bool)
}

func answers() []answer {
	return []answer{{"Ack", Ack}, {"Reject", Reject}, {"Revive", Revive}}
}

// expect holds what an answer makes of a box.
func (a answer) expect(t *testing.T, b []api.Out, sku, n int, want []api.Out, wantIs bool) {
	t.Helper()
	before := slices.Clone(b)
	if got, is := a.call(b, sku, n); !slices.Equal(got, want) || is != wantIs || !slices.Equal(b, before) {
		t.Errorf("%s(%v, %d, %d) = %v, %t; want %v, %t", a.name, before, sku, n, got, is, want, wantIs)
	}
}

// expectNothing holds that an answer changes nothing.
func (a answer) expectNothing(t *testing.T, b []api.Out, sku, n int) {
	t.Helper()
	a.expect(t, b, sku, n, slices.Clone(b), false)
}

// Q1
func TestIntendByHand(t *testing.T) {
	b := make([]api.Out, 2)
	expectIntend(t, b, 0, 500, 3, []api.Out{out(1, 500, 0, 3, stWait), {}}, api.OK)
	expectIntend(t, b, 1, 1, 0, []api.Out{{}, out(1, 1, 0, 0, stWait)}, api.OK)
	// What waits, is done or is dead is superseded, by the same price too.
	for _, state := range []int{stNone, stWait, stDone, stDead} {
		one := []api.Out{out(7, 500, 4, 90, state)}
		expectIntend(t, one, 0, 600, 50, []api.Out{out(8, 600, 0, 50, stWait)}, api.OK)
		expectIntend(t, one, 0, 500, 50, []api.Out{out(8, 500, 0, 50, stWait)}, api.OK)
	}
}

// Q1: whatever stands at the sku's place, prices and ticks at their edges.
func TestIntendEdges(t *testing.T) {
	for i, o := range outs() {
		sku := places()[i%3]
		for _, price := range prices() {
			now := numbers()[(i+price)%len(numbers())]
			expectIntend(t, boxOf(sku, o), sku, price, now, boxOf(sku, out(o.Version+1, price, 0, tickOf(now), stWait)), api.OK)
		}
	}
	for _, now := range numbers() {
		for _, price := range prices() {
			expectIntend(t, []api.Out{out(1, 9, 5, 7, stDead)}, 0, price, now, []api.Out{out(2, price, 0, tickOf(now), stWait)}, api.OK)
		}
	}
}

// Q1: no such sku, no such price, or both.
func TestIntendWrong(t *testing.T) {
	for _, b := range [][]api.Out{boxOf(2, api.Out{}), boxOf(0, out(0, 0, -1, -1, -1))} {
		for _, now := range numbers() {
			for _, sku := range noPlaces() {
				for _, price := range []int{0, 1, 500, most, most + 1} {
					expectIntend(t, b, sku, price, now, slices.Clone(b), api.ErrArg)
				}
			}
			for _, price := range noPrices() {
				for _, sku := range places() {
					expectIntend(t, b, sku, price, now, slices.Clone(b), api.ErrArg)
				}
			}
		}
	}
}

// Q2
func TestDueByHand(t *testing.T) {
	b := []api.Out{{}, out(3, 500, 2, 40, stWait), out(1, 9, 5, 7, stWait), out(2, 8, 0, 0, stDone), out(4, 7, 5, 0, stDead), out(1, 6, 0, 39, stWait)}
	expectDue(t, b, 6)
	expectDue(t, b, 7, 2)
	expectDue(t, b, 38, 2)
	expectDue(t, b, 39, 2, 5)
	expectDue(t, b, 40, 1, 2, 5)
	expectDue(t, b, math.MaxInt, 1, 2, 5)
	expectDue(t, b, -1)
	expectDue(t, nil, 40)
	expectDue(t, []api.Out{}, 40)
	// How many tries there were doesn't matter, nor what is to be sent.
	expectDue(t, []api.Out{out(0, 0, 6, 0, stWait), out(-1, -1, -1, 0, stWait)}, 0, 0, 1)
}

// Q2: each state, and each tick beside each.
func TestDueEdges(t *testing.T) {
	for _, state := range states() {
		for _, next := range numbers() {
			for _, now := range numbers() {
				o := out(1, 500, 0, next, state)
				if state == stWait && tickOf(next) <= tickOf(now) {
					expectDue(t, []api.Out{{}, o, {}, o}, now, 1, 3)
				} else {
					expectDue(t, []api.Out{{}, o, {}, o}, now)
				}
			}
		}
	}
}

// Q2: a box may have more skus than the program.
func TestDueOfMany(t *testing.T) {
	var b []api.Out
	for sku := range 5000 {
		b = append(b, out(1, 500, 0, (sku*37)%100, 1+sku%2))
	}
	for now := range 100 {
		var want []int
		for sku := 0; sku < 5000; sku += 2 {
			if (sku*37)%100 <= now {
				want = append(want, sku)
			}
		}
		expectDue(t, b, now, want...)
	}
}

// Q3: the chapter's example, and on till it is given up.
func TestSendByHand(t *testing.T) {
	b, err := Intend(make([]api.Out, 1), 0, 500, 3)
	if err != api.OK {
		t.Fatal(err)
	}
	expectDue(t, b, 2)
	expectUnsent(t, b, 0, 2)
	for i, x := range []struct{ now, next int }{{3, 5}, {5, 9}, {9, 17}, {17, 33}, {33, 65}} {
		expectDue(t, b, x.now, 0)
		want := []api.Out{out(1, 500, i+1, x.next, stWait)}
		expectSend(t, b, 0, x.now, want, mailOf(0, 1, 500), true, api.OK)
		b = want
		expectDue(t, b, x.next-1)
		expectUnsent(t, b, 0, x.next-1)
	}
	gone := []api.Out{out(1, 500, 5, 65, stDead)}
	expectSend(t, b, 0, 65, gone, api.Mail{}, false, api.OK)
	expectSend(t, b, 0, 1000, gone, api.Mail{}, false, api.OK)
	expectDue(t, gone, 1000)
	expectUnsent(t, gone, 0, 1000)
}

// Q3: the next time is reckoned from when it was sent, not from when it was due.
func TestSendLate(t *testing.T) {
	for tries, by := range []int{2, 4, 8, 16, 32} {
		for _, now := range []int{40, 41, 50, 1000, end - by} {
			expectSend(t, []api.Out{out(3, 500, tries, 40, stWait)}, 0, now, []api.Out{out(3, 500, tries+1, now+by, stWait)}, mailOf(0, 3, 500), true, api.OK)
		}
		for _, now := range []int{end - by + 1, end - 1, end, end + 1, math.MaxInt} {
			expectSend(t, []api.Out{out(3, 500, tries, 40, stWait)}, 0, now, []api.Out{out(3, 500, tries+1, end, stWait)}, mailOf(0, 3, 500), true, api.OK)
		}
	}
	// Below no try at all it is as at none.
	for _, tries := range []int{math.MinInt, math.MinInt + 1, -64, -63, -2, -1} {
		expectSend(t, []api.Out{out(3, 500, tries, 40, stWait)}, 0, 40, []api.Out{out(3, 500, tries+1, 41, stWait)}, mailOf(0, 3, 500), true, api.OK)
	}
}

// Q3: whatever stands at the sku's place, at each tick.
func TestSendEdges(t *testing.T) {
	mails, refused, givenUp := 0, 0, 0
	for i, o := range outs() {
		sku := places()[i%3]
		for _, now := range numbers() {
			want, isMail, is := sent(o, now)
			switch b := boxOf(sku, o); {
			case !is:
				refused++
				expectUnsent(t, b, sku, now)
			case isMail:
				mails++
				expectSend(t, b, sku, now, boxOf(sku, want), mailOf(sku, o.Version, o.Price), true, api.OK)
			default:
				givenUp++
				expectSend(t, b, sku, now, boxOf(sku, want), api.Mail{}, false, api.OK)
			}
		}
	}
	if min(mails, refused, givenUp) < 1000 {
		t.Errorf("only %d mails, %d refused, %d given up", mails, refused, givenUp)
	}
}

// Q3: no such sku.
func TestSendWrong(t *testing.T) {
	for _, sku := range noPlaces() {
		for _, now := range numbers() {
			expectUnsent(t, boxOf(0, out(1, 500, 0, 0, stWait)), sku, now)
		}
	}
}

// Q4
func TestAnswersByHand(t *testing.T) {
	for _, x := range []struct {
		a    answer
		o    api.Out
		n    int
		want api.Out
	}{
		{answer{"Ack", Ack}, out(3, 500, 2, 40, stWait), 3, out(3, 500, 2, 40, stDone)},
		{answer{"Ack", Ack}, out(3, 500, 5, 40, stDead), 3, out(3, 500, 5, 40, stDone)},
		{answer{"Ack", Ack}, out(3, 500, 0, 40, stWait), 3, out(3, 500, 0, 40, stDone)},
		{answer{"Reject", Reject}, out(3, 500, 2, 40, stWait), 3, out(3, 500, 2, 40, stDead)},
		{answer{"Revive", Revive}, out(3, 500, 5, 40, stDead), 9, out(3, 500, 0, 9, stWait)},
		{answer{"Revive", Revive}, out(3, 500, 5, 40, stDead), 99, out(3, 500, 0, 99, stWait)},
		{answer{"Revive", Revive}, out(3, 500, 0, 40, stDead), -9, out(3, 500, 0, 0, stWait)},
		{answer{"Revive", Revive}, out(3, 500, 5, 40, stDead), end + 1, out(3, 500, 0, end, stWait)},
	} {
		x.a.expect(t, []api.Out{x.o}, 0, x.n, []api.Out{x.want}, true)
	}
	for _, x := range []struct {
		a answer
		o api.Out
		n int
	}{
		{answer{"Ack", Ack}, out(3, 500, 2, 40, stWait), 2}, {answer{"Ack", Ack}, out(3, 500, 2, 40, stWait), 4},
		{answer{"Ack", Ack}, out(3, 500, 5, 40, stDead), 2}, {answer{"Ack", Ack}, out(3, 500, 2, 40, stDone), 3},
		{answer{"Ack", Ack}, api.Out{}, 0}, {answer{"Reject", Reject}, api.Out{}, 0},
		{answer{"Reject", Reject}, out(3, 500, 2, 40, stWait), 2}, {answer{"Reject", Reject}, out(3, 500, 2, 40, stWait), 4},
		{answer{"Reject", Reject}, out(3, 500, 2, 40, stDone), 3}, {answer{"Reject", Reject}, out(3, 500, 5, 40, stDead), 3},
		{answer{"Revive", Revive}, api.Out{}, 9}, {answer{"Revive", Revive}, out(3, 500, 2, 40, stWait), 99},
		{answer{"Revive", Revive}, out(3, 500, 2, 40, stDone), 99},
	} {
		x.a.expectNothing(t, []api.Out{x.o}, 0, x.n)
	}
}

// Q4: whatever stands at the sku's place: its version, those beside it, and
// those of the others.
func TestAckAndRejectEdges(t *testing.T) {
	ack, reject := answer{"Ack", Ack}, answer{"Reject", Reject}
	for i, o := range outs() {
		sku := places()[i%3]
		b := boxOf(sku, o)
		for _, version := range []int{math.MinInt, -1, 0, 1, 2, 3, 4, math.MaxInt - 1, math.MaxInt} {
			is := version == o.Version
			want := o
			want.State = stDone
			if is && (o.State == stWait || o.State == stDead) {
				ack.expect(t, b, sku, version, boxOf(sku, want), true)
			} else {
				ack.expectNothing(t, b, sku, version)
			}
			want.State = stDead
			if is && o.State == stWait {
				reject.expect(t, b, sku, version, boxOf(sku, want), true)
			} else {
				reject.expectNothing(t, b, sku, version)
			}
		}
	}
}

// Q4: whatever stands at the sku's place, at each tick.
func TestReviveEdges(t *testing.T) {
	revive := answer{"Revive", Revive}
	for i, o := range outs() {
		sku := places()[i%3]
		for _, now := range numbers() {
			if o.State == stDead {
				revive.expect(t, boxOf(sku, o), sku, now, boxOf(sku, out(o.Version, o.Price, 0, tickOf(now), stWait)), true)
			} else {
				revive.expectNothing(t, boxOf(sku, o), sku, now)
			}
		}
	}
}

// Q4: no such sku.
func TestAnswersWrong(t *testing.T) {
	for _, a := range answers() {
		for _, sku := range noPlaces() {
			for _, n := range append(numbers(), 3) {
				a.expectNothing(t, boxOf(0, out(3, 500, 5, 0, stDead)), sku, n)
			}
		}
	}
}

// Q1 to Q4: a box without skus has none, not even the first one.
func TestEmptyBox(t *testing.T) {
	for _, b := range [][]api.Out{nil, {}, make([]api.Out, 0, 5), others()[:0]} {
		for _, sku := range append(noPlaces(), 0, 1) {
			expectIntend(t, b, sku, 500, 0, nil, api.ErrArg)
			expectDue(t, b, sku)
			expectUnsent(t, b, sku, 0)
			for _, a := range answers() {
				a.expectNothing(t, b, sku, 0)
			}
		}
	}
}

// deed is something that was done to a sku, which changed it.
type deed struct {
	kind, price, now int
}

// The kinds of deeds.
const (
	intended = iota
	mailed
	givenUp
	acked
	rejected
	revived
)

// told is what a sku's deeds make of it: reckoned from them alone, each field
// by itself.
func told(deeds []deed) api.Out {
	var o api.Out
	for i, d := range deeds {
		switch d.kind {
		case intended:
			o.Version++
			o.Price = d.price
		}
		if d.kind == intended || d.kind == revived {
			o.Tries = 0
			o.Next = d.now
			for _, later := range deeds[i+1:] {
				if later.kind == mailed {
					o.Tries++
					o.Next = later.now + []int{0, 2, 4, 8, 16, 32}[o.Tries]
				}
				if later.kind == intended || later.kind == revived {
					break
				}
			}
		}
	}
	if len(deeds) > 0 {
		o.State = []int{stWait, stWait, stDead, stDone, stDead, stWait}[deeds[len(deeds)-1].kind]
	}
	return o
}

// history is a box, and what was done to each of its skus.
type history struct {
	box   []api.Out
	deeds [][]deed
	now   int
}

// do does something to a sku, notes it if it changed it, and answers whether
// that is so.
func (h *history) do(t *testing.T, kind, sku, n int) bool {
	t.Helper()
	var next []api.Out
	var m api.Mail
	is := true
	switch kind {
	case intended:
		var err api.Errno
		next, err = Intend(h.box, sku, n, h.now)
		is = err == api.OK
	case mailed:
		var isMail bool
		var err api.Errno
		next, m, isMail, err = Send(h.box, sku, h.now)
		is = err == api.OK
		if is && !isMail {
			kind = givenUp
		}
	case acked:
		next, is = Ack(h.box, sku, n)
	case rejected:
		next, is = Reject(h.box, sku, n)
	case revived:
		next, is = Revive(h.box, sku, h.now)
	}
	if is {
		h.deeds[sku] = append(h.deeds[sku], deed{kind, n, h.now})
	}
	h.box = next
	h.expect(t)
	o := h.box[sku]
	if is && kind == mailed && m != mailOf(sku, o.Version, o.Price) || kind != mailed && m != (api.Mail{}) {
		t.Fatalf("%v: mail %v", h.deeds[sku], m)
	}
	return is
}

// expect holds the box against its deeds.
func (h *history) expect(t *testing.T) {
	t.Helper()
	var due []int
	for sku, o := range h.box {
		if want := told(h.deeds[sku]); o != want {
			t.Fatalf("%v: %v; want %v", h.deeds[sku], o, want)
		}
		if o.State == stWait && o.Next <= h.now {
			due = append(due, sku)
		}
	}
	if got := Due(h.box, h.now); !slices.Equal(got, due) {
		t.Fatalf("Due(%v, %d) = %v; want %v", h.box, h.now, got, due)
	}
}

func newHistory(size int) *history {
	return &history{box: make([]api.Out, size), deeds: make([][]deed, size)}
}

// Q5: thousands of deeds, in whatever order, each sku for itself.
func TestHistories(t *testing.T) {
	r := rand.New(rand.NewSource(18))
	counts := make([]int, 6)
	for range 1000 {
		h := newHistory(1 + r.Intn(4))
		for range 60 {
			h.now += r.Intn(20)
			sku := r.Intn(len(h.box))
			o := h.box[sku]
			kind := []int{intended, mailed, mailed, mailed, mailed, mailed, mailed, acked, rejected, revived}[r.Intn(10)]
			n := 1 + r.Intn(900)
			if kind == acked || kind == rejected {
				n = o.Version - r.Intn(3)/2
			}
			h.do(t, kind, sku, n)
		}
		for _, l := range h.deeds {
			for _, d := range l {
				counts[d.kind]++
			}
		}
	}
	if slices.Min(counts) < 200 {
		t.Errorf("of the deeds there were only %v", counts)
	}
}

// Q5: all rows of six deeds to one sku.
func TestShortHistories(t *testing.T) {
	kinds := []int{intended, mailed, acked, rejected, revived}
	var on func(h history, left int)
	on = func(h history, left int) {
		if left == 0 {
			return
		}
		for _, kind := range kinds {
			next := history{box: h.box, deeds: [][]deed{slices.Clone(h.deeds[0])}, now: h.now + 3}
			n := h.box[0].Version
			if kind == intended {
				n = 100 + left
			}
			next.do(t, kind, 0, n)
			on(next, left-1)
		}
	}
	on(*newHistory(1), 6)
}

// Q5: versions rise by one for each intent, and by nothing else.
func TestVersions(t *testing.T) {
	h := newHistory(2)
	for i := range 200 {
		if !h.do(t, intended, 0, 1+i%2) || h.box[0].Version != i+1 {
			t.Fatalf("behind %d intents: %v", i+1, h.box[0])
		}
		for _, kind := range []int{mailed, rejected, revived, mailed, acked, intended}[:i%6] {
			if kind != intended {
				h.do(t, kind, 0, h.box[0].Version)
			}
		}
		if h.box[0].Version != i+1 || h.box[1] != (api.Out{}) {
			t.Fatalf("behind %d intents: %v", i+1, h.box)
		}
	}
}

// Q5: what is acked is done, whatever comes, until something else is intended.
func TestDoneStays(t *testing.T) {
	for _, ways := range [][]int{{intended, acked}, {intended, mailed, acked}, {intended, rejected, acked}, {intended, rejected, revived, mailed, acked}} {
		h := newHistory(1)
		for _, kind := range ways {
			if !h.do(t, kind, 0, 1) {
				t.Fatalf("%v: %v", ways, h.box)
			}
		}
		done := h.box[0]
		for range 3 {
			h.now += 1000
			for _, kind := range []int{mailed, acked, rejected, revived} {
				for version := range 4 {
					if h.do(t, kind, 0, version) || h.box[0] != done || done.State != stDone {
						t.Errorf("%v, then %d: %v; want %v", ways, kind, h.box[0], done)
					}
				}
			}
			expectDue(t, h.box, h.now)
		}
		if !h.do(t, intended, 0, 700) || h.box[0] != out(2, 700, 0, h.now, stWait) {
			t.Errorf("%v, then intended: %v", ways, h.box[0])
		}
	}
}

// Q5: an answer for a version that was superseded changes nothing.
func TestOldAnswers(t *testing.T) {
	h := newHistory(1)
	for version := 1; version <= 20; version++ {
		h.do(t, intended, 0, 100+version)
		h.do(t, mailed, 0, 0)
		before := h.box[0]
		for other := -1; other <= 22; other++ {
			if other != version && (h.do(t, acked, 0, other) || h.do(t, rejected, 0, other)) || h.box[0] != before {
				t.Fatalf("an answer for %d: %v; want %v", other, h.box[0], before)
			}
		}
	}
}

// mails asks for all that is due at each tick, up to the last one, and tells at
// which ticks a sku was sent.
func mails(t *testing.T, h *history, sku, last int) []int {
	t.Helper()
	var at []int
	for ; h.now <= last; h.now++ {
		for _, s := range Due(h.box, h.now) {
			tries := h.box[s].Tries
			h.do(t, mailed, s, 0)
			if s == sku && h.box[s].Tries > tries {
				at = append(at, h.now)
			}
		}
	}
	return at
}

// Q5: who is never answered is sent five times, and then is dead, until it is
// revived.
func TestNeverAnswered(t *testing.T) {
	h := newHistory(3)
	h.do(t, intended, 0, 500)
	h.now = 7
	h.do(t, intended, 2, 600)
	if at := mails(t, h, 2, 300); !slices.Equal(at, []int{7, 9, 13, 21, 37}) {
		t.Errorf("sent at %v", at)
	}
	if !slices.Equal(h.box, []api.Out{out(1, 500, 5, 69, stDead), {}, out(1, 600, 5, 69, stDead)}) {
		t.Errorf("never answered: %v", h.box)
	}
	h.do(t, revived, 2, 0)
	if at := mails(t, h, 2, 600); !slices.Equal(at, []int{301, 303, 307, 315, 331}) {
		t.Errorf("revived, and sent at %v", at)
	}
	if h.box[2] != out(1, 600, 5, 363, stDead) {
		t.Errorf("never answered again: %v", h.box)
	}
}

// Q5: at the last tick too, where nothing is later.
func TestNeverAnsweredAtTheEnd(t *testing.T) {
	for _, now := range []int{end, end + 1, math.MaxInt} {
		b, _ := Intend(make([]api.Out, 1), 0, 500, now)
		for tries := 1; tries <= 5; tries++ {
			expectDue(t, b, end, 0)
			want := []api.Out{out(1, 500, tries, end, stWait)}
			expectSend(t, b, 0, now, want, mailOf(0, 1, 500), true, api.OK)
			b = want
		}
		expectSend(t, b, 0, now, []api.Out{out(1, 500, 5, end, stDead)}, api.Mail{}, false, api.OK)
	}
}

// calls are all that make a box of one, each of which changes one sku of wide.
func calls() []func(b []api.Out) []api.Out {
	return []func(b []api.Out) []api.Out{
		func(b []api.Out) []api.Out { c, _ := Intend(b, 1, 700, 50); return c },
		func(b []api.Out) []api.Out { c, _, _, _ := Send(b, 0, 50); return c },
		func(b []api.Out) []api.Out { c, _, _, _ := Send(b, 1, 50); return c },
		func(b []api.Out) []api.Out { c, _ := Ack(b, 0, 3); return c },
		func(b []api.Out) []api.Out { c, _ := Reject(b, 0, 3); return c },
		func(b []api.Out) []api.Out { c, _ := Revive(b, 2, 50); return c },
	}
}

// wide is a box behind the length of which something stands.
func wide() []api.Out { return append(others(), boxOf(0, out(9, 9, 9, 9, 9))...)[:3] }

// What is handed in is not written into, nor what stands behind its length;
// what comes out is new memory, spare room too.
func TestMemory(t *testing.T) {
	spoil := func(c []api.Out) {
		c = c[:cap(c)]
		for i := range c {
			c[i] = out(-1, -1, -1, -1, -1)
		}
	}
	for i, call := range calls() {
		b := wide()
		first, second := call(b), call(b)
		want := slices.Clone(second)
		if slices.Equal(first, b) || !slices.Equal(first, second) {
			t.Errorf("call %d: %v, then %v", i, first, second)
		}
		spoil(first)
		if !slices.Equal(b[:cap(b)], wide()[:cap(b)]) || !slices.Equal(second, want) {
			t.Errorf("call %d: what was handed in was changed, or another answer", i)
		}
		spoil(b)
		if !slices.Equal(second, want) {
			t.Errorf("call %d: what was handed in was kept", i)
		}
	}
	b := wide()
	first, second := Due(b, 50), Due(b, 50)
	for i := range first[:cap(first)] {
		first[:cap(first)][i] = -1
	}
	if !slices.Equal(second, []int{0, 1}) || !slices.Equal(b[:cap(b)], wide()[:cap(b)]) {
		t.Errorf("Due: %v, and the box %v", second, b)
	}
}
