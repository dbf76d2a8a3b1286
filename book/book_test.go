package book

import (
	"math"
	"math/big"
	"slices"
	"strings"
	"testing"
	"unsafe"

	"haggler/api"
)

const (
	most = 1000000000000 // of a price, and of a line's number
	last = 1 << 40       // of all ticks
)

func slot(seller string, price, at int) api.Slot {
	return api.Slot{Seller: seller, Price: price, At: at}
}

func seen(source string, seq int) api.Seen { return api.Seen{Source: source, Seq: seq} }

// names are names, noNames texts that are none.
func names() []string {
	return []string{"a", "z", "bob", "bob7", "b0b", "a0", "gone", "iff", "lowests", "push", "abcdefghijkl", "a00000000000"}
}

func noNames() []string {
	l := strings.Fields("lowest second from less cut min max else if more above")
	return append(l, "", " ", "A", "Bob", "boB", "7", "7up", "a b", "a ", " a", "a\n", "a.b", "a-b", "a,b", "abcdefghijklm", strings.Repeat("a", 50), "\x00", "a\x00", "\xff", "caf\u00e9", "a\u0661", "\u00a0")
}

// prices are numbers that a price may be, or a line's; noPrices are none.
func prices() []int { return []int{1, 2, 499, 1 << 31, 1 << 32, most - 1, most} }

func noPrices() []int {
	return []int{0, -1, -499, -most, most + 1, last, 2 * most, math.MaxInt, math.MinInt, math.MinInt + 1}
}

// ticks are ticks, noTicks numbers that are none.
func ticks() []int { return []int{0, 1, 7, 1 << 20, 1 << 32, most, most + 1, last - 1, last} }

func noTicks() []int {
	return []int{-1, -7, -last, last + 1, 2 * last, math.MaxInt, math.MinInt}
}

// numbers are ticks, others, and those at which the 64 bits end.
func numbers() []int {
	l := append(ticks(), noTicks()...)
	return append(l, 3, 5, 50, -50, last/2, last/2+1, last-50, last-51, math.MaxInt-1, math.MinInt+1)
}

// filled is a book of so many sellers, a, b and so on.
func filled(size int) []api.Slot {
	var b []api.Slot
	for i := range size {
		b = append(b, slot(string(rune('a'+i)), 100+i, i))
	}
	return b
}

// heard is a list of so many sources, a, b and so on.
func heard(size int) []api.Seen {
	var l []api.Seen
	for i := range size {
		l = append(l, seen(string(rune('a'+i)), 10+i))
	}
	return l
}

// books are books that calls make, and others that they never would.
func books() [][]api.Slot {
	strange := []api.Slot{slot("", 0, 0), slot("if", -5, math.MinInt), slot("Bob", math.MaxInt, math.MaxInt), slot(strings.Repeat("a", 50), math.MinInt, -1)}
	twice := []api.Slot{slot("a", 5, 1), slot("b", 6, 2), slot("a", 7, 3), slot("b", 5, 4), slot("a", 5, 1)}
	l := [][]api.Slot{nil, {}, twice, strange, append(filled(3), strange...), slices.Repeat(twice[:1], 8), slices.Repeat(strange, 20)}
	for size := 1; size <= 12; size++ {
		l = append(l, filled(size))
	}
	return l
}

// lists are lists of sources, made as books are.
func lists() [][]api.Seen {
	strange := []api.Seen{seen("", 0), seen("if", -5), seen("Bob", math.MaxInt), seen(strings.Repeat("a", 50), math.MinInt)}
	twice := []api.Seen{seen("a", 5), seen("b", 9), seen("a", 7), seen("z", math.MaxInt), seen("z", 1), seen("bob", math.MinInt)}
	l := [][]api.Seen{nil, {}, twice, strange, append(heard(3), strange...), slices.Repeat(twice[:1], 8), slices.Repeat(strange, 20)}
	for size := 1; size <= 12; size++ {
		l = append(l, heard(size))
	}
	return l
}

// expectPut holds what Put answers against what it is to answer.
func expectPut(t *testing.T, b []api.Slot, seller string, price, now int, want []api.Slot, wantErr api.Errno) {
	t.Helper()
	before := slices.Clone(b)
	if got, err := Put(b, seller, price, now); !slices.Equal(got, want) || err != wantErr || !slices.Equal(b, before) {
		t.Errorf("Put(%v, %q, %d, %d) = %v, %d; want %v, %d", before, seller, price, now, got, err, want, wantErr)
	}
}

// expectFresh holds what Fresh answers against what it is to answer.
func expectFresh(t *testing.T, l []api.Seen, source string, seq int, want []api.Seen, wantIs bool, wantErr api.Errno) {
	t.Helper()
	before := slices.Clone(l)
	if got, is, err := Fresh(l, source, seq); !slices.Equal(got, want) || is != wantIs || err != wantErr || !slices.Equal(l, before) {
		t.Errorf("Fresh(%v, %q, %d) = %v, %t, %d; want %v, %t, %d", before, source, seq, got, is, err, want, wantIs, wantErr)
	}
}

// sold is what Put is to answer where no argument is wrong.
func sold(b []api.Slot, seller string, price, now int) ([]api.Slot, api.Errno) {
	var l []api.Slot
	found := false
	for _, s := range b {
		if !found && s.Seller == seller {
			found = true
			s.Price, s.At = price, now
		}
		l = append(l, s)
	}
	switch {
	case found:
		return l, api.OK
	case len(b) > 7:
		return nil, api.ErrFull
	}
	return append(l, slot(seller, price, now)), api.OK
}

// told is what Fresh is to answer where no argument is wrong.
func told(l []api.Seen, source string, seq int) ([]api.Seen, bool, api.Errno) {
	answer := append([]api.Seen{}, l...)
	for i := range answer {
		if answer[i].Source == source {
			is := seq > answer[i].Seq
			answer[i].Seq = max(seq, answer[i].Seq)
			return answer, is, api.OK
		}
	}
	if len(l) > 7 {
		return nil, false, api.ErrFull
	}
	return append(answer, seen(source, seq)), true, api.OK
}

// K1
func TestPutByHand(t *testing.T) {
	once := []api.Slot{slot("bob", 499, 3)}
	expectPut(t, nil, "bob", 499, 3, once, api.OK)
	expectPut(t, once, "bob", 549, 4, []api.Slot{slot("bob", 549, 4)}, api.OK)
	expectPut(t, once, "ann", 549, 4, []api.Slot{slot("bob", 499, 3), slot("ann", 549, 4)}, api.OK)
	expectPut(t, once, "bob7", 1, 0, []api.Slot{slot("bob", 499, 3), slot("bob7", 1, 0)}, api.OK)
	expectPut(t, once, "bo", 1, 0, []api.Slot{slot("bob", 499, 3), slot("bo", 1, 0)}, api.OK)
	// What is put may be older, lower or the same.
	expectPut(t, once, "bob", 1, 0, []api.Slot{slot("bob", 1, 0)}, api.OK)
	expectPut(t, once, "bob", 499, 3, once, api.OK)
	// The one that changes stays where it is; of two the first one changes.
	three := []api.Slot{slot("a", 5, 1), slot("b", 6, 2), slot("a", 7, 3)}
	expectPut(t, three, "a", 9, 4, []api.Slot{slot("a", 9, 4), slot("b", 6, 2), slot("a", 7, 3)}, api.OK)
	expectPut(t, three, "b", 9, 4, []api.Slot{slot("a", 5, 1), slot("b", 9, 4), slot("a", 7, 3)}, api.OK)
	expectPut(t, three, "c", 9, 4, []api.Slot{slot("a", 5, 1), slot("b", 6, 2), slot("a", 7, 3), slot("c", 9, 4)}, api.OK)
}

// K1: a right argument beside others at their edges, and a wrong one, in
// whatever book.
func TestPutArguments(t *testing.T) {
	for _, b := range books() {
		for _, seller := range names() {
			for _, price := range prices() {
				for _, now := range ticks() {
					want, wantErr := sold(b, seller, price, now)
					expectPut(t, b, seller, price, now, want, wantErr)
				}
			}
		}
		for _, seller := range noNames() {
			expectPut(t, b, seller, 499, 3, nil, api.ErrArg)
		}
		for _, seller := range []string{"a", "l", "bob"} {
			for _, price := range noPrices() {
				expectPut(t, b, seller, price, 3, nil, api.ErrArg)
			}
			for _, now := range noTicks() {
				expectPut(t, b, seller, 499, now, nil, api.ErrArg)
			}
		}
		expectPut(t, b, "", 0, -1, nil, api.ErrArg)
	}
}

// K1: as many as a book may have; those that are there may still change.
func TestFullBook(t *testing.T) {
	for size := range 13 {
		b := filled(size)
		want, wantErr := append(filled(size), slot("z", 1, 2)), api.OK
		if size >= 8 {
			want, wantErr = nil, api.ErrFull
		}
		expectPut(t, b, "z", 1, 2, want, wantErr)
		expectPut(t, b, "z", 0, 2, nil, api.ErrArg)
		expectPut(t, b, "z", 1, last+1, nil, api.ErrArg)
		for i := range b {
			want := filled(size)
			want[i].Price, want[i].At = 1, 2
			expectPut(t, b, b[i].Seller, 1, 2, want, api.OK)
		}
	}
	many := slices.Repeat(filled(2), 500)
	want := slices.Clone(many)
	want[1] = slot("b", 1, 2)
	expectPut(t, many, "b", 1, 2, want, api.OK)
	expectPut(t, many, "c", 1, 2, nil, api.ErrFull)
}

// K2
func TestDropByHand(t *testing.T) {
	a, b, other, strange := slot("a", 5, 1), slot("b", 6, 2), slot("a", 7, 3), slot("If", 0, -1)
	for _, x := range []struct {
		b      []api.Slot
		seller string
		want   []api.Slot
	}{
		{nil, "a", nil},
		{[]api.Slot{}, "a", nil},
		{[]api.Slot{a}, "a", nil},
		{[]api.Slot{a}, "b", []api.Slot{a}},
		{[]api.Slot{a}, "", []api.Slot{a}},
		{[]api.Slot{a}, "aa", []api.Slot{a}},
		{[]api.Slot{a, b}, "a", []api.Slot{b}},
		{[]api.Slot{a, b}, "b", []api.Slot{a}},
		// Of two only the first one.
		{[]api.Slot{a, b, other}, "a", []api.Slot{b, other}},
		{[]api.Slot{other, b, a}, "a", []api.Slot{b, a}},
		{[]api.Slot{b, a, other}, "a", []api.Slot{b, other}},
		{[]api.Slot{a, a}, "a", []api.Slot{a}},
		{[]api.Slot{a, b, other}, "b", []api.Slot{a, other}},
		{[]api.Slot{a, b, other}, "c", []api.Slot{a, b, other}},
		// No name is asked for.
		{[]api.Slot{a, strange, b}, "If", []api.Slot{a, b}},
		{[]api.Slot{{}, b}, "", []api.Slot{b}},
	} {
		before := slices.Clone(x.b)
		if got := Drop(x.b, x.seller); !slices.Equal(got, x.want) || !slices.Equal(x.b, before) {
			t.Errorf("Drop(%v, %q) = %v; want %v", before, x.seller, got, x.want)
		}
	}
}

// K2: each of a book's sellers, however long the book is.
func TestDrop(t *testing.T) {
	for _, b := range books() {
		for _, seller := range append(names(), noNames()...) {
			var want []api.Slot
			dropped := false
			for _, s := range b {
				if !dropped && s.Seller == seller {
					dropped = true
					continue
				}
				want = append(want, s)
			}
			if got := Drop(b, seller); !slices.Equal(got, want) {
				t.Errorf("Drop(%v, %q) = %v; want %v", b, seller, got, want)
			}
		}
	}
}

// K2
func TestExpireByHand(t *testing.T) {
	for _, x := range []struct {
		at, now, most int
		stays         bool
	}{
		{0, 0, 0, true},
		{0, 1, 0, false},
		{3, 53, 50, true},
		{3, 54, 50, false},
		{3, 3, 0, true},
		{3, 4, 0, false},
		{3, 2, 0, true},
		{3, 0, 50, true},
		// Below 0 is taken as 0: of At, and of most, but not of now.
		{3, 3, -1, true},
		{3, 4, -1, false},
		{3, 3, math.MinInt, true},
		{-5, 0, 0, true},
		{-5, 1, 0, false},
		{-5, 7, 7, true},
		{-5, 8, 7, false},
		{math.MinInt, 0, math.MinInt, true},
		{math.MinInt, 1, math.MinInt, false},
		{0, -1, 0, true},
		{-5, -1, -5, true},
		{0, math.MinInt, 0, true},
		// So is beyond all ticks, as the last one.
		{last, last, 0, true},
		{last, last, -5, true},
		{last, last + 1, 0, false},
		{last, last + 1, 50, false},
		{last - 50, last, 50, true},
		{last - 51, last, 50, false},
		{last + 9, last, 0, true},
		{last + 9, last + 1, 9, false},
		{0, last, math.MaxInt, true},
		{0, last + 1, math.MaxInt, false},
		{math.MaxInt, last, math.MaxInt, true},
		{math.MaxInt, math.MaxInt, math.MaxInt, false},
		{last, math.MaxInt, 0, false},
	} {
		s := slot("a", 5, x.at)
		var want []api.Slot
		if x.stays {
			want = []api.Slot{s}
		}
		if got := Expire([]api.Slot{s}, x.now, x.most); !slices.Equal(got, want) {
			t.Errorf("Expire of %d, %d, %d = %v", x.at, x.now, x.most, got)
		}
	}
}

// tick is the tick that is nearest to a number, without bounds.
func tick(n int) *big.Int {
	switch {
	case n < 0:
		return big.NewInt(0)
	case n > last:
		return big.NewInt(last)
	}
	return big.NewInt(int64(n))
}

// expires tells whether a slot of a tick is too old, by numbers without bounds.
func expires(at, now, long int) bool {
	end := new(big.Int).Add(tick(at), tick(long))
	if end.Cmp(big.NewInt(last)) > 0 {
		end = big.NewInt(last)
	}
	return end.Cmp(big.NewInt(int64(now))) < 0
}

// K2: each number with each, all others staying in their order.
func TestExpire(t *testing.T) {
	var b []api.Slot
	for i, at := range numbers() {
		b = append(b, slot("a"+strings.Repeat("b", i%3), i, at))
	}
	before := slices.Clone(b)
	for _, now := range numbers() {
		for _, long := range numbers() {
			var want []api.Slot
			for _, s := range b {
				if !expires(s.At, now, long) {
					want = append(want, s)
				}
			}
			if got := Expire(b, now, long); !slices.Equal(got, want) || !slices.Equal(b, before) {
				t.Errorf("Expire(%v, %d, %d) = %v; want %v", before, now, long, got, want)
			}
		}
	}
	if got := Expire(nil, 1, 0); len(got) > 0 {
		t.Errorf("Expire(nil, 1, 0) = %v", got)
	}
}

// K2: all of a book's slots, in their order, whatever they are.
func TestOffers(t *testing.T) {
	b := []api.Slot{slot("b", 6, 2), slot("a", 5, 1), slot("a", 7, 3)}
	if got := Offers(b); !slices.Equal(got, []api.Offer{{Seller: "b", Price: 6}, {Seller: "a", Price: 5}, {Seller: "a", Price: 7}}) {
		t.Errorf("Offers(%v) = %v", b, got)
	}
	for _, b := range books() {
		got := Offers(b)
		if len(got) != len(b) {
			t.Fatalf("Offers(%v) = %v", b, got)
		}
		for i := range b {
			if got[i].Seller != b[i].Seller || got[i].Price != b[i].Price {
				t.Errorf("Offers(%v)[%d] = %v", b, i, got[i])
			}
		}
	}
}

// K3
func TestFreshByHand(t *testing.T) {
	once := []api.Seen{seen("acme", 7)}
	expectFresh(t, nil, "acme", 7, once, true, api.OK)
	expectFresh(t, once, "acme", 8, []api.Seen{seen("acme", 8)}, true, api.OK)
	expectFresh(t, once, "acme", most, []api.Seen{seen("acme", most)}, true, api.OK)
	expectFresh(t, once, "acme", 7, once, false, api.OK)
	expectFresh(t, once, "acme", 6, once, false, api.OK)
	expectFresh(t, once, "acme", 1, once, false, api.OK)
	expectFresh(t, once, "acme7", 1, []api.Seen{seen("acme", 7), seen("acme7", 1)}, true, api.OK)
	expectFresh(t, once, "acm", 7, []api.Seen{seen("acme", 7), seen("acm", 7)}, true, api.OK)
	// Of two the first one is gone by, and changes.
	three := []api.Seen{seen("a", 5), seen("b", 9), seen("a", 7)}
	expectFresh(t, three, "a", 6, []api.Seen{seen("a", 6), seen("b", 9), seen("a", 7)}, true, api.OK)
	expectFresh(t, three, "a", 5, three, false, api.OK)
	expectFresh(t, three, "b", 10, []api.Seen{seen("a", 5), seen("b", 10), seen("a", 7)}, true, api.OK)
	falling := []api.Seen{seen("a", 7), seen("a", 5)}
	expectFresh(t, falling, "a", 6, falling, false, api.OK)
	expectFresh(t, falling, "a", 8, []api.Seen{seen("a", 8), seen("a", 5)}, true, api.OK)
	// Whatever stands in a list.
	for _, seq := range []int{math.MinInt, -1, 0} {
		expectFresh(t, []api.Seen{seen("a", seq)}, "a", 1, []api.Seen{seen("a", 1)}, true, api.OK)
	}
	for _, seq := range []int{most, most + 1, math.MaxInt} {
		l := []api.Seen{seen("a", seq)}
		expectFresh(t, l, "a", most, l, false, api.OK)
	}
}

// K3: a right argument beside others at their edges, and a wrong one, in
// whatever list.
func TestFreshArguments(t *testing.T) {
	for _, l := range lists() {
		for _, source := range names() {
			for _, seq := range append(prices(), 5, 6, 7, 8, 9, 10, 11, 15, 17, 18, 19) {
				want, wantIs, wantErr := told(l, source, seq)
				expectFresh(t, l, source, seq, want, wantIs, wantErr)
			}
		}
		for _, source := range noNames() {
			for _, seq := range []int{0, 1, most} {
				expectFresh(t, l, source, seq, nil, false, api.ErrArg)
			}
		}
		for _, source := range []string{"a", "l", "bob", "if"} {
			for _, seq := range noPrices() {
				expectFresh(t, l, source, seq, nil, false, api.ErrArg)
			}
		}
	}
}

// K3: as many as there may be; those that are there may still go on.
func TestFullList(t *testing.T) {
	for size := range 13 {
		l := heard(size)
		want, wantErr := append(heard(size), seen("z", 1)), api.OK
		if size >= 8 {
			want, wantErr = nil, api.ErrFull
		}
		expectFresh(t, l, "z", 1, want, wantErr == api.OK, wantErr)
		expectFresh(t, l, "z", 0, nil, false, api.ErrArg)
		expectFresh(t, l, "if", 1, nil, false, api.ErrArg)
		for i := range l {
			want := heard(size)
			want[i].Seq = 99
			expectFresh(t, l, l[i].Source, 99, want, true, api.OK)
			expectFresh(t, l, l[i].Source, l[i].Seq, l, false, api.OK)
		}
	}
	many := slices.Repeat(heard(2), 500)
	want := slices.Clone(many)
	want[1] = seen("b", 12)
	expectFresh(t, many, "b", 12, want, true, api.OK)
	expectFresh(t, many, "c", 12, nil, false, api.ErrFull)
}

// state is what a short rule chooses by.
type state uint32

func (s *state) next(below int) int {
	*s = *s*1664525 + 1013904223
	return int(*s>>8) % below
}

// asks is what a seller asks, and since when.
type asks struct{ price, at int }

// held holds that a book has of each seller that and no more.
func held(t *testing.T, b []api.Slot, want map[string]asks) {
	t.Helper()
	offers := Offers(b)
	if len(b) != len(want) || len(offers) != len(want) {
		t.Errorf("%v, %v; want %v", b, offers, want)
		return
	}
	for i, s := range b {
		one, ok := want[s.Seller]
		if !ok || one != (asks{s.Price, s.At}) || offers[i] != (api.Offer{Seller: s.Seller, Price: s.Price}) {
			t.Errorf("%v, %v; want %v", b, offers, want)
		}
	}
}

// K4: from an empty book on, against what each seller asks: as many slots as
// sellers, so none has two, and what was put for one changes nothing of others.
func TestManyDeeds(t *testing.T) {
	var b []api.Slot
	want := map[string]asks{}
	chosen := state(7)
	fulls := 0
	for now := range 20000 {
		seller := names()[chosen.next(len(names()))]
		switch chosen.next(8) {
		default:
			price := 1 + chosen.next(1000)
			next, err := Put(b, seller, price, now)
			if _, ok := want[seller]; !ok && len(want) == 8 {
				fulls++
				if err != api.ErrFull || len(next) > 0 {
					t.Fatalf("Put(%v, %q, %d, %d) = %v, %d", b, seller, price, now, next, err)
				}
				continue
			}
			want[seller] = asks{price, now}
			if err != api.OK {
				t.Fatalf("Put(%v, %q, %d, %d) = %v, %d", b, seller, price, now, next, err)
			}
			b = next
		case 0:
			b = Drop(b, seller)
			delete(want, seller)
		case 1:
			long := chosen.next(60)
			b = Expire(b, now, long)
			for seller, one := range want {
				if one.at+long < now {
					delete(want, seller)
				}
			}
		case 2:
			wrong, err := Put(b, noNames()[chosen.next(len(noNames()))], 5, now)
			if len(wrong) > 0 || err != api.ErrArg {
				t.Fatalf("Put of no name = %v, %d", wrong, err)
			}
		}
		held(t, b, want)
	}
	if fulls < 100 {
		t.Errorf("only %d times full", fulls)
	}
}

// K4: what was put last is what is offered; what was put for others changes
// nothing of it.
func TestWhatWasPutLast(t *testing.T) {
	for _, seller := range names() {
		b, _ := Put(nil, seller, 499, 3)
		b, _ = Put(b, "other", 7, 3)
		b, _ = Put(b, seller, 549, 4)
		for now := range 20 {
			b, _ = Put(b, "other", 8+now, now)
			b, _ = Put(b, string(rune('a'+now%6)), 9, now)
			b, _ = Put(b, seller, 550+now, now)
			b = Drop(b, string(rune('a'+now%6))+"0")
		}
		count := 0
		for _, o := range Offers(b) {
			if o.Seller == seller {
				count++
				if o.Price != 569 {
					t.Errorf("%q asks %d", seller, o.Price)
				}
			}
		}
		if count != 1 {
			t.Errorf("%q asks %d times: %v", seller, count, b)
		}
	}
}

// K4: a line that comes twice, right away or later, is new once.
func TestLinesAreNewOnce(t *testing.T) {
	var l []api.Seen
	chosen := state(13)
	highest := map[string]int{}
	fulls := 0
	for range 20000 {
		source := names()[chosen.next(len(names()))]
		seq := max(1, highest[source]-3+chosen.next(8))
		before := l
		next, is, err := Fresh(l, source, seq)
		if _, ok := highest[source]; !ok && len(highest) == 8 {
			fulls++
			if len(next) > 0 || is || err != api.ErrFull {
				t.Fatalf("Fresh(%v, %q, %d) = %v, %t, %d", l, source, seq, next, is, err)
			}
			continue
		}
		if is != (seq > highest[source]) || err != api.OK {
			t.Fatalf("Fresh(%v, %q, %d) = %v, %t, %d", l, source, seq, next, is, err)
		}
		if !is && !slices.Equal(next, before) {
			t.Fatalf("Fresh(%v, %q, %d) = %v, though it is not new", l, source, seq, next)
		}
		highest[source] = max(seq, highest[source])
		l = next
		expectFresh(t, l, source, seq, l, false, api.OK)
		for _, s := range l {
			if highest[s.Source] != s.Seq {
				t.Fatalf("%v; want %v", l, highest)
			}
		}
		if len(l) != len(highest) {
			t.Fatalf("%v; want %v", l, highest)
		}
	}
	if fulls < 100 {
		t.Errorf("only %d times full", fulls)
	}
}

// roomy is a list with room behind it that is somebody's, and all of that.
func roomy[E any](l []E, behind E) ([]E, []E) {
	all := append(slices.Clone(l), behind, behind, behind)
	return all[:len(l)], all
}

// apart tells whether two lists share no memory, spare room too.
func apart[E any](a, b []E) bool {
	a, b = a[:cap(a)], b[:cap(b)]
	if len(a) == 0 || len(b) == 0 {
		return true
	}
	size := unsafe.Sizeof(a[0])
	from, other := uintptr(unsafe.Pointer(&a[0])), uintptr(unsafe.Pointer(&b[0]))
	return from+size*uintptr(len(a)) <= other || other+size*uintptr(len(b)) <= from
}

// newMemory holds that a list stayed, and what stands behind it too, and that no
// two of what was answered, and no answer and the list, share memory.
func newMemory[E comparable](t *testing.T, all, before []E, answers [][]E) {
	t.Helper()
	if !slices.Equal(all, before) {
		t.Errorf("of %v was made %v", before, all)
	}
	for i, one := range answers {
		if !apart(one, all) {
			t.Errorf("answer %d of %v shares its memory", i, before)
		}
		for j := range i {
			if !apart(one, answers[j]) {
				t.Errorf("answers %d and %d of %v share memory", i, j, before)
			}
		}
	}
}

// R3: books: what comes out is new memory, even where nothing was changed.
func TestBooksAreNewMemory(t *testing.T) {
	for _, book := range books() {
		b, all := roomy(book, slot("behind", 1, 1))
		before := slices.Clone(all)
		var answers [][]api.Slot
		for range 2 {
			for _, seller := range []string{"a", "h", "zz"} {
				one, _ := Put(b, seller, 77, 77)
				answers = append(answers, one, Drop(b, seller))
			}
			answers = append(answers, Expire(b, 0, 0), Expire(b, 3, 0), Expire(b, last+1, 0))
		}
		newMemory(t, nil, nil, [][]api.Offer{Offers(b), Offers(b)})
		newMemory(t, all, before, answers)
	}
}

// R3: lists of sources, too.
func TestListsAreNewMemory(t *testing.T) {
	for _, list := range lists() {
		l, all := roomy(list, seen("behind", 1))
		before := slices.Clone(all)
		var answers [][]api.Seen
		for range 2 {
			for _, source := range []string{"a", "h", "zz"} {
				for _, seq := range []int{1, 10, 99} {
					one, _, _ := Fresh(l, source, seq)
					answers = append(answers, one)
				}
			}
		}
		newMemory(t, all, before, answers)
	}
}

// R3: a name that is put is not kept as a piece of the text that it was cut of.
func TestNamesAreNewMemory(t *testing.T) {
	text := strings.Clone("acme 7 mug bob 4.99")
	within := func(part string) bool {
		from, at := uintptr(unsafe.Pointer(unsafe.StringData(text))), uintptr(unsafe.Pointer(unsafe.StringData(part)))
		return from <= at && at < from+uintptr(len(text))
	}
	b, _ := Put(nil, text[11:14], 499, 3)
	changed, _ := Put([]api.Slot{slot("bob", 1, 1)}, text[11:14], 499, 3)
	l, _, _ := Fresh(nil, text[:4], 7)
	if b[0].Seller != "bob" || within(b[0].Seller) || within(changed[0].Seller) {
		t.Errorf("Put keeps a piece of %q", text)
	}
	if l[0].Source != "acme" || within(l[0].Source) {
		t.Errorf("Fresh keeps a piece of %q", text)
	}
}

// P1, R4: whatever bytes: it ends, and tells the same for the same.
func TestAnyBytes(t *testing.T) {
	for seed := range 5000 {
		chosen := state(seed)
		bytes := make([]byte, seed%16)
		for i := range bytes {
			bytes[i] = byte(chosen.next(256))
		}
		s := string(bytes)
		b, l := books()[seed%len(books())], lists()[seed%len(lists())]
		for range 2 {
			one, err := Put(b, s, seed-9, seed-9)
			other, errAgain := Put(b, s, seed-9, seed-9)
			if !slices.Equal(one, other) || err != errAgain || (err == api.OK) != (len(one) > 0) {
				t.Errorf("Put(%v, %q, %d, %d) = %v, %d, then %v, %d", b, s, seed-9, seed-9, one, err, other, errAgain)
			}
			if !slices.Equal(Drop(b, s), Drop(b, s)) || !slices.Equal(Expire(b, seed-9, seed%60), Expire(b, seed-9, seed%60)) || !slices.Equal(Offers(b), Offers(b)) {
				t.Errorf("of %v twice unlike answers", b)
			}
			now, is, err := Fresh(l, s, seed-9)
			later, isAgain, errAgain := Fresh(l, s, seed-9)
			if !slices.Equal(now, later) || is != isAgain || err != errAgain || err != api.OK && (is || len(now) > 0) {
				t.Errorf("Fresh(%v, %q, %d) = %v, %t, %d, then %v, %t, %d", l, s, seed-9, now, is, err, later, isAgain, errAgain)
			}
		}
	}
}
