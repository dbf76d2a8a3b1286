package value

import (
	"fmt"
	"math"
	"math/big"
	"slices"
	"strings"
	"testing"

	"haggler/api"
	"haggler/tree"
)

// most is the greatest amount there may be.
const most = 1000000000000

func call(kind, n int, args ...api.Expr) api.Expr { return api.Expr{Kind: kind, N: n, Args: args} }

func lowest() api.Expr { return call(api.ExLowest, 0) }

func second() api.Expr { return call(api.ExSecond, 0) }

func fixed(n int) api.Expr { return call(api.ExFixed, n) }

func from(name string) api.Expr { return api.Expr{Kind: api.ExFrom, Name: name} }

func more(n int) api.Expr { return call(api.ExMore, n) }

func above(a, b api.Expr) api.Expr { return call(api.ExAbove, 0, a, b) }

func when(c, a, b api.Expr) api.Expr { return call(api.ExIf, 0, c, a, b) }

// beyond is an expression whose reckoning goes wrong, whatever there is.
func beyond() api.Expr { return call(api.ExCut, 100000, fixed(most)) }

// below is an amount below 0: no expression is one by itself.
func below(n int) api.Expr { return call(api.ExLess, n, fixed(0)) }

// asked are offers at these prices, of the sellers a, b, c and so on.
func asked(prices ...int) []api.Offer {
	var l []api.Offer
	for i, p := range prices {
		l = append(l, api.Offer{Seller: string(rune('a' + i)), Price: p})
	}
	return l
}

// answer is what Eval answers.
type answer struct {
	n   int
	is  bool
	err api.Errno
}

func tells(n int) answer { return answer{n, true, api.OK} }

func nothing() answer { return answer{} }

func fails(err api.Errno) answer { return answer{err: err} }

// brief is an expression's text, or what little a message needs of one that has
// none, for it may be endless.
func brief(x api.Expr) string {
	if s, err := tree.Print(x); err == api.OK {
		return s
	}
	if s, err := tree.Print(when(x, lowest(), lowest())); err == api.OK {
		return s
	}
	return fmt.Sprintf("{%d %d %.20q, %d Args}", x.Kind, x.N, x.Name, len(x.Args))
}

// few tells of offers no more than a message needs.
func few(l []api.Offer) string {
	return fmt.Sprintf("%d offers, %.200q", len(l), fmt.Sprint(l[:min(len(l), 9)]))
}

// expect holds what Eval answers against what it is to answer.
func expect(t *testing.T, x api.Expr, l []api.Offer, want answer) {
	t.Helper()
	n, is, err := Eval(x, l)
	if got := (answer{n, is, err}); got != want {
		t.Errorf("Eval(%.300s, %s) = %v; want %v", brief(x), few(l), got, want)
	}
}

// expectCond holds what Cond answers against what it is to answer.
func expectCond(t *testing.T, x api.Expr, l []api.Offer, want bool, wantErr api.Errno) {
	t.Helper()
	if got, err := Cond(x, l); got != want || err != wantErr {
		t.Errorf("Cond(%.300s, %s) = %t, %d; want %t, %d", brief(x), few(l), got, err, want, wantErr)
	}
}

// step is a part of a reckoning that is told by steps: an expression that is to
// be told, or one whose Args were told, as far as they had to be.
type step struct {
	x    api.Expr
	told bool
}

// reference is what an expression or a condition tells, in numbers that have no
// bounds and without any call in another one: nil stands for nothing, and a
// condition tells 1 or nothing. It tells false, if one of the numbers is beyond.
func reference(x api.Expr, l []api.Offer) (*big.Int, bool) {
	var stack []*big.Int
	pop := func() *big.Int {
		last := stack[len(stack)-1]
		stack = stack[:len(stack)-1]
		return last
	}
	todo := []step{{x, false}}
	for len(todo) > 0 {
		s := todo[len(todo)-1]
		todo = todo[:len(todo)-1]
		if !s.told {
			first := s.x.Args
			if s.x.Kind == api.ExElse || s.x.Kind == api.ExIf {
				first = first[:1]
			}
			todo = append(todo, step{s.x, true})
			for _, arg := range slices.Backward(first) {
				todo = append(todo, step{arg, false})
			}
			continue
		}
		switch s.x.Kind {
		case api.ExElse:
			if last := pop(); last != nil {
				stack = append(stack, last)
			} else {
				todo = append(todo, step{s.x.Args[1], false})
			}
		case api.ExIf:
			if pop() != nil {
				todo = append(todo, step{s.x.Args[1], false})
			} else {
				todo = append(todo, step{s.x.Args[2], false})
			}
		default:
			args := slices.Clone(stack[len(stack)-len(s.x.Args):])
			stack = stack[:len(stack)-len(s.x.Args)]
			n, ok := made(s.x, args, l)
			if !ok {
				return nil, false
			}
			stack = append(stack, n)
		}
	}
	return pop(), true
}

// made is what an expression that is no ExElse and no ExIf makes of what its
// Args tell.
func made(x api.Expr, args []*big.Int, l []api.Offer) (*big.Int, bool) {
	if slices.Contains(args, nil) {
		return nil, true
	}
	n := big.NewInt(int64(x.N))
	switch x.Kind {
	case api.ExLowest, api.ExSecond:
		return ranked(l, x.Kind-api.ExLowest), true
	case api.ExFrom:
		i := slices.IndexFunc(l, func(o api.Offer) bool { return o.Seller == x.Name })
		if i < 0 {
			return nil, true
		}
		return big.NewInt(int64(l[i].Price)), true
	case api.ExLess:
		n.Sub(args[0], n)
	case api.ExCut:
		// Div rounds down, for what it divides by is above 0.
		part := new(big.Int).Div(n.Mul(args[0], n), big.NewInt(10000))
		return part.Sub(args[0], part), bounded(part) && bounded(new(big.Int).Sub(args[0], part))
	case api.ExMin, api.ExMax:
		if (args[0].Cmp(args[1]) < 0) == (x.Kind == api.ExMin) {
			return args[0], true
		}
		return args[1], true
	case api.ExMore:
		if len(l) <= x.N {
			return nil, true
		}
	case api.ExAbove:
		if args[0].Cmp(args[1]) <= 0 {
			return nil, true
		}
	}
	return n, bounded(n)
}

func bounded(n *big.Int) bool { return n.CmpAbs(big.NewInt(most)) <= 0 }

// ranked is the price that has at most so many lower ones, and with those that
// are as low more of them.
func ranked(l []api.Offer, ahead int) *big.Int {
	for _, o := range l {
		lower, as := 0, 0
		for _, other := range l {
			if other.Price < o.Price {
				lower++
			}
			if other.Price == o.Price {
				as++
			}
		}
		if lower <= ahead && ahead < lower+as {
			return big.NewInt(int64(o.Price))
		}
	}
	return nil
}

// compare holds what Eval answers for a strategy that is right against the
// reference, and tells it.
func compare(t *testing.T, x api.Expr, l []api.Offer) answer {
	t.Helper()
	want := nothing()
	if n, ok := reference(x, l); !ok {
		want = fails(api.ErrRange)
	} else if n != nil {
		want = tells(int(n.Int64()))
	}
	expect(t, x, l, want)
	return want
}

// compareCond does so for a condition.
func compareCond(t *testing.T, x api.Expr, l []api.Offer) {
	t.Helper()
	n, ok := reference(x, l)
	if !ok {
		expectCond(t, x, l, false, api.ErrRange)
	} else {
		expectCond(t, x, l, n != nil, api.OK)
	}
}

// maker makes strategies and offers, as a short rule chooses.
type maker struct{ state uint32 }

// below is a number below n, which is at most 2^16.
func (m *maker) below(n int) int {
	m.state = m.state*1664525 + 1013904223
	return int(m.state>>16) * n >> 16
}

// number is a number from 0 to top, its edges more often than others.
func (m *maker) number(top int) int {
	return []int{0, 1, top, top / 10, m.below(1<<16) % (top + 1), m.below(1<<16) * 15258789 % (top + 1)}[m.below(6)]
}

// expr is an expression, or a condition, with at most so many calls in one
// another.
func (m *maker) expr(deep int, condition bool) api.Expr {
	arg := func() api.Expr { return m.expr(deep-1, false) }
	if condition && (deep == 0 || m.below(3) == 0) {
		return more(m.below(10))
	}
	if condition {
		return above(arg(), arg())
	}
	if deep == 0 || m.below(8) == 0 {
		return []api.Expr{lowest(), second(), from(string(rune('a' + m.below(10)))), fixed(m.number(most))}[m.below(4)]
	}
	switch kind := 5 + m.below(6); kind {
	case api.ExLess:
		return call(kind, m.number(most), arg())
	case api.ExCut:
		return call(kind, m.number(100000), arg())
	case api.ExIf:
		return when(m.expr(deep-1, true), arg(), arg())
	default:
		return call(kind, 0, arg(), arg())
	}
}

// offers are up to 8 ones, often as low as others.
func (m *maker) offers() []api.Offer {
	prices := []int{1, most, 1 + m.number(most-1), 1 + m.below(1000), 500, 500, 501}
	var l []api.Offer
	for i := range m.below(9) {
		at := m.below(len(l) + 1)
		l = slices.Insert(l, at, api.Offer{Seller: string(rune('a' + i)), Price: prices[m.below(len(prices))]})
	}
	return l
}

// strategies are some of all kinds, that are right.
func strategies(times int) []api.Expr {
	var l []api.Expr
	for seed := range times {
		m := &maker{uint32(seed) * 2654435761}
		if x := m.expr(1+seed%5, false); tree.Right(x) {
			l = append(l, x)
		}
	}
	return l
}

// orders are all orders of offers.
func orders(l []api.Offer) [][]api.Offer {
	if len(l) == 0 {
		return [][]api.Offer{nil}
	}
	var all [][]api.Offer
	for _, rest := range orders(l[1:]) {
		for i := range len(l) {
			all = append(all, slices.Insert(slices.Clone(rest), i, l[0]))
		}
	}
	return all
}

// wrongOffers are lists that are not right, each for one reason.
func wrongOffers() [][]api.Offer {
	all := [][]api.Offer{asked(1, 1, 1, 1, 1, 1, 1, 1, 1), asked(slices.Repeat([]int{5}, 20)...), slices.Repeat(asked(5), 100000)}
	var bad []api.Offer
	for _, p := range []int{0, -1, most + 1, -most, math.MaxInt, math.MinInt} {
		bad = append(bad, api.Offer{Seller: "bob", Price: p})
	}
	names := strings.Fields("lowest second from less cut min max else if more above abcdefghijklm 1 7up B Bob bOb bo-b bo_b bo.b b\x00 bäb ä 0.01 ( " + strings.Repeat("x", 1000))
	for _, name := range append(names, "", " ", " bob", "bob ", "bob\n", "b\xff", "\xff") {
		bad = append(bad, api.Offer{Seller: name, Price: 5})
	}
	for _, o := range bad {
		for i := range 8 {
			all = append(all, slices.Replace(asked(1, 2, 3, 4, 5, 6, 7, 8), i, i+1, o))
		}
		all = append(all, []api.Offer{o})
	}
	for i := range 8 {
		for j := range i {
			l := asked(1, 2, 3, 4, 5, 6, 7, 8)
			l[i].Seller = l[j].Seller
			all = append(all, l, l[:i+1])
		}
	}
	return append(all, []api.Offer{{Seller: "a", Price: 5}, {Seller: "a", Price: 5}})
}

// rightOffers are lists that are right, those at the edges among them.
func rightOffers() [][]api.Offer {
	all := [][]api.Offer{nil, {}, asked(1), asked(most), asked(1, most, 1, most, 5, 5, 5, 5)}
	for _, name := range strings.Fields("a z bob a1 z9 abcdefghijkl a23456789012 lowes lowests iff elsee ab0ve") {
		all = append(all, []api.Offer{{Seller: name, Price: 7}}, []api.Offer{{Seller: "b", Price: 7}, {Seller: name, Price: 7}})
	}
	for n := range 9 {
		all = append(all, asked(1, 2, 3, 4, 5, 6, 7, 8)[:n])
	}
	return all
}

// wrongStrategies are expressions that are not right, those that are conditions
// left out.
func wrongStrategies() []api.Expr {
	low := lowest()
	endless := make([]api.Expr, 2)
	endless[0], endless[1] = call(api.ExMin, 0, endless...), low
	endless[0].Args = endless
	return []api.Expr{
		{}, call(-1, 0), call(13, 0), call(math.MaxInt, 0), call(math.MinInt, 0),
		call(api.ExLowest, 1), call(api.ExLowest, 0, low), {Kind: api.ExSecond, Name: "a"}, from(""), from("if"), from("A"), from("abcdefghijklm"),
		{Kind: api.ExFrom, N: 1, Name: "a"}, fixed(-1), fixed(most + 1), fixed(math.MinInt), {Kind: api.ExFixed, Name: "a"},
		call(api.ExLess, 1), call(api.ExLess, -1, low), call(api.ExLess, most+1, low), call(api.ExLess, 1, low, low), call(api.ExLess, 1, more(1)),
		call(api.ExCut, 1), call(api.ExCut, -1, low), call(api.ExCut, 100001, low), call(api.ExCut, 1, above(low, low)),
		call(api.ExMin, 0), call(api.ExMin, 0, low), call(api.ExMin, 1, low, low), call(api.ExMin, 0, low, low, low), call(api.ExMin, 0, low, call(0, 0)),
		call(api.ExMax, 0, low), call(api.ExMax, 0, more(1), low), call(api.ExElse, 0, low), call(api.ExElse, 0, low, more(1)), call(api.ExElse, 0, fixed(1), fixed(-1)),
		call(api.ExIf, 0), when(low, low, low), when(more(1), more(1), low), when(more(1), low, above(low, low)), call(api.ExIf, 0, more(1), low),
		when(more(-1), low, low), when(more(1001), low, low), when(above(low, fixed(-1)), low, low), when(call(api.ExAbove, 0, low), low, low), when(more(0), low, fixed(-1)),
		nested(32, low), nested(1000, low), long(2001), long(5000), endless[0],
	}
}

// nested is an expression in so many calls.
func nested(times int, x api.Expr) api.Expr {
	for range times {
		x = call(api.ExLess, 1, x)
	}
	return x
}

// long is an expression whose text has so many bytes, 4 at least.
func long(size int) api.Expr {
	if size <= 6 {
		return fixed(int(math.Pow10(size - 2)))
	}
	if size <= 18 {
		return from(strings.Repeat("a", size-6))
	}
	size -= len("max(, )")
	return call(api.ExMax, 0, long(size/2), long(size-size/2))
}

// V1: what is right, and what is not.
func TestRight(t *testing.T) {
	for _, l := range rightOffers() {
		if !Right(l) {
			t.Errorf("Right(%s) = false", few(l))
		}
	}
	for _, l := range wrongOffers() {
		if Right(l) {
			t.Errorf("Right(%s) = true", few(l))
		}
	}
}

// V1: sellers are told apart wholly, prices are not told apart at all.
func TestRightOfLikeOffers(t *testing.T) {
	if l := []api.Offer{{Seller: "ab", Price: 3}, {Seller: "a", Price: 3}, {Seller: "b", Price: 3}, {Seller: "ba", Price: 3}, {Seller: "abcdefghijk1", Price: 3}, {Seller: "abcdefghijk2", Price: 3}}; !Right(l) {
		t.Errorf("Right(%s) = false", few(l))
	}
}

// V1: all lists of at most three offers, out of some.
func TestRightOfShortLists(t *testing.T) {
	one := []api.Offer{{Seller: "a", Price: 1}, {Seller: "a", Price: most}, {Seller: "b", Price: 1}, {Seller: "cut", Price: 1}, {Seller: "c", Price: 0}, {Seller: "c", Price: most + 1}, {Seller: "c", Price: 2}, {}}
	lists := [][]api.Offer{nil}
	for range 3 {
		for _, l := range lists {
			for _, o := range one {
				lists = append(lists, append(slices.Clone(l), o))
			}
		}
	}
	for _, l := range lists {
		sellers := map[string]int{}
		want := true
		for _, o := range l {
			sellers[o.Seller]++
			want = want && o.Price >= 1 && o.Price <= most && len(o.Seller) == 1 && sellers[o.Seller] == 1
		}
		if Right(l) != want {
			t.Errorf("Right(%s) = %t", few(l), !want)
		}
	}
}

// V2: the example of the chapter, and those of the whole.
func TestExamples(t *testing.T) {
	x := call(api.ExElse, 0, call(api.ExLess, 1, lowest()), fixed(999))
	expect(t, x, nil, tells(999))
	expect(t, x, asked(500), tells(499))
	expect(t, x, asked(700, 500, 900), tells(499))
	expect(t, call(api.ExLess, 1, lowest()), asked(450), tells(449))
}

// V2: what offers tell by themselves.
func TestOffers(t *testing.T) {
	l := []api.Offer{{Seller: "bob", Price: 700}, {Seller: "ann", Price: 500}, {Seller: "eve", Price: 600}}
	for seller, price := range map[string]int{"bob": 700, "ann": 500, "eve": 600} {
		expect(t, from(seller), l, tells(price))
		expect(t, from(seller), nil, nothing())
	}
	for _, seller := range []string{"bo", "bobb", "a", "nobody"} {
		expect(t, from(seller), l, nothing())
	}
	expect(t, lowest(), l, tells(500))
	expect(t, second(), l, tells(600))
	expect(t, lowest(), l[:2], tells(500))
	expect(t, second(), l[:2], tells(700))
	expect(t, lowest(), l[:1], tells(700))
	expect(t, second(), l[:1], nothing())
	expect(t, lowest(), nil, nothing())
	expect(t, second(), []api.Offer{}, nothing())
	expect(t, lowest(), asked(1, most), tells(1))
	expect(t, second(), asked(1, most), tells(most))
	expect(t, lowest(), asked(8, 7, 6, 5, 4, 3, 2, 1), tells(1))
	expect(t, second(), asked(8, 7, 6, 5, 4, 3, 2, 1), tells(2))
	// Two that are as low are two of all.
	expect(t, second(), asked(500, 500), tells(500))
	expect(t, second(), asked(900, 500, 700, 500), tells(500))
	expect(t, second(), asked(700, 500, 700), tells(700))
	expect(t, lowest(), asked(700, 700, 700), tells(700))
}

// V2: amounts, and less than amounts, up to their bounds.
func TestAmountsAndLess(t *testing.T) {
	for _, n := range []int{0, 1, 99, 12345, most - 1, most} {
		expect(t, fixed(n), nil, tells(n))
		expect(t, fixed(n), asked(7), tells(n))
		expect(t, call(api.ExLess, n, fixed(0)), nil, tells(-n))
		expect(t, call(api.ExLess, n, fixed(n)), nil, tells(0))
		expect(t, call(api.ExLess, n, lowest()), asked(7), tells(7-n))
		expect(t, call(api.ExLess, n, lowest()), nil, nothing())
		expect(t, call(api.ExLess, most-n, below(n)), nil, tells(-most))
		if n > 0 {
			expect(t, call(api.ExLess, most-n+1, below(n)), nil, fails(api.ErrRange))
		}
	}
	expect(t, call(api.ExLess, 800, from("a")), asked(700), tells(-100))
	expect(t, call(api.ExLess, most, below(1)), nil, fails(api.ErrRange))
	expect(t, call(api.ExLess, 0, below(most)), nil, tells(-most))
}

// V2: parts are rounded down, those of amounts below 0 too, so that what is
// left is rounded up.
func TestCut(t *testing.T) {
	for _, c := range [][3]int{{999, 250, 975}, {1000, 250, 975}, {700, 333, 677}, {1, 1, 1}, {1, 9999, 1}, {1, 10000, 0}, {1, 10001, 0}, {1, 19999, 0}, {1, 20000, -1}, {0, 100000, 0}, {5, 0, 5}, {most, 0, most}, {most, 10000, 0}, {most, 5000, most / 2}, {100, 100000, -900}, {most / 10, 100000, most/10 - most}} {
		expect(t, call(api.ExCut, c[1], fixed(c[0])), nil, tells(c[2]))
	}
	for _, c := range [][3]int{{1, 333, 0}, {1, 1, 0}, {1, 0, -1}, {999, 250, -974}, {1000, 250, -975}, {100, 20000, 100}, {most / 2, 20000, most / 2}, {most, 10000, 0}, {most, 9999, -most / 10000}, {most / 10, 100000, most - most/10}} {
		expect(t, call(api.ExCut, c[1], below(c[0])), nil, tells(c[2]))
	}
	expect(t, call(api.ExCut, 250, from("a")), nil, nothing())
	expect(t, call(api.ExCut, 100000, lowest()), nil, nothing())
	// The part is beyond, though what is left would not be.
	expect(t, call(api.ExCut, 10001, fixed(most)), nil, fails(api.ErrRange))
	expect(t, call(api.ExCut, 100000, fixed(most/10+1)), nil, fails(api.ErrRange))
	expect(t, call(api.ExCut, 20001, below(most)), nil, fails(api.ErrRange))
	expect(t, beyond(), nil, fails(api.ErrRange))
}

// V2: the lesser and the greater one of two, if there are two.
func TestMinMax(t *testing.T) {
	for _, c := range [][2]int{{1, 2}, {2, 1}, {5, 5}, {0, most}, {most, most - 1}} {
		expect(t, call(api.ExMin, 0, fixed(c[0]), fixed(c[1])), nil, tells(min(c[0], c[1])))
		expect(t, call(api.ExMax, 0, fixed(c[0]), fixed(c[1])), nil, tells(max(c[0], c[1])))
		expect(t, call(api.ExMin, 0, below(c[0]), fixed(c[1])), nil, tells(-c[0]))
		expect(t, call(api.ExMax, 0, below(c[0]), below(c[1])), nil, tells(-min(c[0], c[1])))
	}
	for _, kind := range []int{api.ExMin, api.ExMax} {
		expect(t, call(kind, 0, lowest(), second()), asked(7, 7), tells(7))
		expect(t, call(kind, 0, lowest(), second()), asked(7), nothing())
		expect(t, call(kind, 0, second(), lowest()), asked(7), nothing())
		expect(t, call(kind, 0, fixed(0), lowest()), nil, nothing())
		expect(t, call(kind, 0, lowest(), below(5)), nil, nothing())
		expect(t, call(kind, 0, second(), lowest()), nil, nothing())
	}
}

// V2: the first one, or the second one.
func TestElse(t *testing.T) {
	els := func(a, b api.Expr) api.Expr { return call(api.ExElse, 0, a, b) }
	expect(t, els(fixed(1), fixed(2)), nil, tells(1))
	expect(t, els(fixed(0), fixed(2)), nil, tells(0))
	expect(t, els(below(3), fixed(2)), nil, tells(-3))
	expect(t, els(lowest(), fixed(2)), nil, tells(2))
	expect(t, els(second(), lowest()), asked(7), tells(7))
	expect(t, els(lowest(), second()), asked(7), tells(7))
	expect(t, els(second(), lowest()), asked(7, 9), tells(9))
	expect(t, els(second(), lowest()), nil, nothing())
	expect(t, els(els(second(), lowest()), fixed(4)), nil, tells(4))
}

// V2: the second one, or the third one; of what a condition tells, as V3 has it.
func TestIf(t *testing.T) {
	for n := range 9 {
		for limit := range 10 {
			want := 2
			if n > limit {
				want = 1
			}
			expect(t, when(more(limit), fixed(1), fixed(2)), asked(1, 2, 3, 4, 5, 6, 7, 8)[:n], tells(want))
		}
	}
	l := asked(500, 700, 500)
	expect(t, when(above(from("b"), from("a")), fixed(1), fixed(2)), l, tells(1))
	expect(t, when(above(from("a"), from("b")), fixed(1), fixed(2)), l, tells(2))
	expect(t, when(above(from("a"), from("c")), fixed(1), fixed(2)), l, tells(2))
	expect(t, when(above(from("a"), from("d")), fixed(1), fixed(2)), l, tells(2))
	expect(t, when(above(from("d"), from("a")), fixed(1), fixed(2)), l, tells(2))
	expect(t, when(above(from("d"), below(1)), fixed(1), fixed(2)), l, tells(2))
	expect(t, when(above(fixed(1), from("d")), fixed(1), fixed(2)), l, tells(2))
	// What is chosen may be nothing, and is not made up for by the other one.
	expect(t, when(more(2), from("d"), fixed(2)), l, nothing())
	expect(t, when(more(3), fixed(2), from("d")), l, nothing())
	expect(t, when(more(2), lowest(), second()), l, tells(500))
}

// V2: what goes wrong is told wherever it is reckoned, and nowhere else.
func TestWhereItGoesWrong(t *testing.T) {
	bad, none, one := beyond(), lowest(), fixed(1)
	for _, x := range []api.Expr{
		bad, call(api.ExLess, 0, bad), call(api.ExCut, 0, bad),
		call(api.ExMin, 0, bad, one), call(api.ExMin, 0, one, bad), call(api.ExMin, 0, bad, none), call(api.ExMin, 0, none, bad), call(api.ExMin, 0, bad, bad),
		call(api.ExMax, 0, bad, one), call(api.ExMax, 0, one, bad), call(api.ExMax, 0, bad, none), call(api.ExMax, 0, none, bad),
		call(api.ExElse, 0, bad, one), call(api.ExElse, 0, none, bad), call(api.ExElse, 0, bad, none),
		when(more(0), one, bad), when(above(one, one), one, bad), when(above(fixed(2), one), bad, one), when(above(none, one), one, bad),
		when(above(bad, one), one, one), when(above(one, bad), one, one), when(above(none, bad), one, one), when(above(bad, none), one, one),
	} {
		expect(t, x, nil, fails(api.ErrRange))
		expect(t, call(api.ExElse, 0, call(api.ExLess, 5, x), one), nil, fails(api.ErrRange))
		expect(t, call(api.ExElse, 0, one, x), nil, tells(1))
		expect(t, call(api.ExElse, 0, lowest(), x), asked(3), tells(3))
		expect(t, when(more(0), x, one), nil, tells(1))
		expect(t, when(more(0), one, x), asked(3), tells(1))
		expect(t, when(above(none, one), x, none), nil, nothing())
		expect(t, when(above(one, below(1)), one, x), nil, tells(1))
	}
}

// V2: all strategies of two calls over few others, of few offers.
func TestAllShortStrategies(t *testing.T) {
	leaves := []api.Expr{lowest(), second(), from("a"), from("c"), fixed(0), fixed(6), fixed(most)}
	level := leaves
	for range 2 {
		var next []api.Expr
		for i, x := range level {
			for _, n := range []int{0, 5, 20001, 100000} {
				next = append(next, call(api.ExLess, n*most/100000, x), call(api.ExCut, n, x))
			}
			for j, y := range leaves {
				next = append(next, call(api.ExMin, 0, x, y), call(api.ExMax, 0, y, x), call(api.ExElse, 0, x, y), call(api.ExElse, 0, y, x))
				z := leaves[(i+j)%len(leaves)]
				next = append(next, when(above(x, y), z, x), when(above(y, x), x, y), when(more(i%4), x, y))
			}
		}
		level = next
	}
	for _, x := range level {
		for _, l := range [][]api.Offer{nil, asked(6), asked(7, 5), asked(most, 6, 6)} {
			compare(t, x, l)
		}
	}
}

// V2: what a short rule makes tells all that may be told.
func TestMade(t *testing.T) {
	count := map[string]int{}
	for seed, x := range strategies(20000) {
		m := &maker{uint32(seed)}
		for range 3 {
			got := compare(t, x, m.offers())
			count[fmt.Sprint(got.is, got.err)]++
		}
	}
	for _, one := range []answer{tells(0), nothing(), fails(api.ErrRange)} {
		if key := fmt.Sprint(one.is, one.err); count[key] < 2000 {
			t.Errorf("only %d of %s", count[key], key)
		}
	}
}

// V2: as deep and as long as may be, and beyond.
func TestDeepAndLong(t *testing.T) {
	for times := range 40 {
		want := tells(5 - times)
		if times > 31 {
			want = fails(api.ErrArg)
		}
		expect(t, nested(times, lowest()), asked(5), want)
		expect(t, nested(times, fixed(5)), nil, want)
		if times <= 31 {
			want = nothing()
		}
		expect(t, nested(times, lowest()), nil, want)
	}
	for size := 1900; size <= 2100; size++ {
		want := nothing()
		if size > 2000 {
			want = fails(api.ErrArg)
		}
		expect(t, long(size), asked(5), want)
	}
	wide := fixed(1000)
	for i := 0; tree.Right(call(api.ExMax, 0, wide, wide)); i++ {
		wide = call(api.ExMax, 0, wide, wide)
	}
	expect(t, wide, nil, tells(1000))
}

// V2: ErrArg ahead of all else, whatever the other argument is.
func TestEvalOfWrongArguments(t *testing.T) {
	good := strategies(40)
	for _, l := range wrongOffers() {
		for _, x := range append(good, beyond(), fixed(5)) {
			expect(t, x, l, fails(api.ErrArg))
		}
	}
	for _, x := range append(wrongStrategies(), more(0), more(1001), above(lowest(), lowest()), above(fixed(2), fixed(1))) {
		for _, l := range append(rightOffers(), wrongOffers()[:5]...) {
			expect(t, x, l, fails(api.ErrArg))
		}
		// Not even where it would not be reckoned.
		expect(t, call(api.ExElse, 0, fixed(1), x), nil, fails(api.ErrArg))
		expect(t, when(more(0), x, fixed(1)), nil, fails(api.ErrArg))
		expect(t, call(api.ExMin, 0, beyond(), x), nil, fails(api.ErrArg))
	}
}

// V3: whether there are more offers than so many.
func TestMore(t *testing.T) {
	for n := range 9 {
		l := asked(1, 2, 3, 4, 5, 6, 7, 8)[:n]
		for limit := range 12 {
			expectCond(t, more(limit), l, n > limit, api.OK)
		}
		expectCond(t, more(1000), l, false, api.OK)
		expectCond(t, more(1001), l, false, api.ErrArg)
		expectCond(t, more(-1), l, false, api.ErrArg)
		expectCond(t, more(math.MinInt), l, false, api.ErrArg)
	}
}

// V3: whether the first one of two amounts is the greater one.
func TestAbove(t *testing.T) {
	numbers := []api.Expr{below(most), below(7), below(1), fixed(0), fixed(1), fixed(7), fixed(most)}
	for i, a := range numbers {
		for j, b := range numbers {
			expectCond(t, above(a, b), nil, i > j, api.OK)
		}
		for _, l := range [][]api.Offer{nil, asked(5)} {
			expectCond(t, above(a, second()), l, false, api.OK)
			expectCond(t, above(second(), a), l, false, api.OK)
		}
		expectCond(t, above(a, beyond()), nil, false, api.ErrRange)
		expectCond(t, above(beyond(), a), nil, false, api.ErrRange)
	}
	expectCond(t, above(second(), lowest()), asked(5, 6), true, api.OK)
	expectCond(t, above(second(), lowest()), asked(5, 5), false, api.OK)
	expectCond(t, above(lowest(), lowest()), nil, false, api.OK)
	expectCond(t, above(lowest(), beyond()), nil, false, api.ErrRange)
	expectCond(t, above(beyond(), lowest()), nil, false, api.ErrRange)
	expectCond(t, above(when(above(lowest(), fixed(4)), fixed(9), beyond()), fixed(8)), asked(5), true, api.OK)
	expectCond(t, above(when(above(lowest(), fixed(4)), fixed(9), beyond()), fixed(8)), asked(4), false, api.ErrRange)
}

// V3: what a short rule makes, and that ExIf goes by it.
func TestCondMade(t *testing.T) {
	for seed := range 20000 {
		m := &maker{uint32(seed) * 2654435761}
		x, l := m.expr(1+seed%5, true), m.offers()
		if !tree.Right(when(x, lowest(), lowest())) {
			continue
		}
		compareCond(t, x, l)
		is, err := Cond(x, l)
		want := answer{err: err}
		if err == api.OK {
			want = map[bool]answer{true: tells(1), false: tells(2)}[is]
		}
		expect(t, when(x, fixed(1), fixed(2)), l, want)
	}
}

// V3: a condition as deep as may be has one more call around it, and as long as
// may be what the chapter's strategy has around it.
func TestCondDeepAndLong(t *testing.T) {
	for times := range 40 {
		want := api.OK
		if times > 29 {
			want = api.ErrArg
		}
		expectCond(t, above(nested(times, fixed(5)), below(1000)), nil, want == api.OK, want)
		expectCond(t, above(fixed(0), nested(times, fixed(5))), nil, times > 5 && want == api.OK, want)
	}
	around := len("if(above(lowest, ), lowest, lowest)")
	for size := 1900; size <= 2100; size++ {
		want := api.OK
		if size+around > 2000 {
			want = api.ErrArg
		}
		expectCond(t, above(lowest(), long(size)), asked(5), false, want)
	}
}

// V3: ErrArg ahead of all else, whatever the other argument is.
func TestCondOfWrongArguments(t *testing.T) {
	for _, l := range wrongOffers() {
		for _, x := range []api.Expr{more(0), more(1000), above(fixed(2), fixed(1)), above(lowest(), beyond()), lowest(), {}} {
			expectCond(t, x, l, false, api.ErrArg)
		}
	}
	low := lowest()
	wrong := []api.Expr{
		{}, low, fixed(1), when(more(0), low, low), call(api.ExMore, 0, low), {Kind: api.ExMore, Name: "a"},
		call(api.ExAbove, 0), above(low, more(0)), above(more(0), low), call(api.ExAbove, 1, low, low), {Kind: api.ExAbove, Name: "a", Args: []api.Expr{low, low}},
		call(api.ExAbove, 0, low), call(api.ExAbove, 0, low, low, low), above(low, above(low, low)),
	}
	for _, x := range wrongStrategies() {
		wrong = append(wrong, x, above(x, fixed(1)), above(beyond(), x), when(x, low, low), when(more(0), x, low))
	}
	for _, x := range append(wrong, strategies(200)...) {
		for _, l := range [][]api.Offer{nil, asked(5), asked(5, 7, 6), wrongOffers()[0]} {
			expectCond(t, x, l, false, api.ErrArg)
		}
	}
}

// V4: the order of the offers changes nothing.
func TestOrders(t *testing.T) {
	for _, prices := range [][]int{{5}, {5, 6}, {6, 6, 5}, {7, 5, 5, 6}, {9, 1, most, 1, 8}} {
		l := asked(prices...)
		for _, x := range append(strategies(150), lowest(), second(), from("a"), from("b"), from("c")) {
			n, is, err := Eval(x, l)
			so, errCond := Cond(above(x, second()), l)
			for _, other := range orders(l) {
				expect(t, x, other, answer{n, is, err})
				expectCond(t, above(x, second()), other, so, errCond)
			}
		}
	}
	for seed, x := range strategies(3000) {
		l := (&maker{uint32(seed)}).offers()
		n, is, err := Eval(x, l)
		slices.Reverse(l)
		expect(t, x, l, answer{n, is, err})
		slices.SortFunc(l, func(a, b api.Offer) int { return b.Price - a.Price })
		expect(t, x, l, answer{n, is, err})
	}
}

// bare is an expression all of whose amounts are what offers tell.
func bare(x api.Expr) api.Expr {
	if x.Kind == api.ExFixed {
		return lowest()
	}
	args := slices.Clone(x.Args)
	for i := range args {
		args[i] = bare(args[i])
	}
	x.Args = args
	return x
}

// V4: without offers nothing is told but what amounts make.
func TestWithoutOffers(t *testing.T) {
	for _, x := range strategies(5000) {
		if y := bare(x); tree.Right(y) {
			expect(t, y, nil, nothing())
			expect(t, y, []api.Offer{}, nothing())
			expectCond(t, above(y, fixed(0)), nil, false, api.OK)
		}
		compare(t, x, nil)
	}
}

// R3: what is handed in is not written into, nor is what stands behind it.
func TestArgumentsStay(t *testing.T) {
	for seed, x := range strategies(500) {
		l := (&maker{uint32(seed)}).offers()
		room := append(slices.Clone(l), asked(3, 2, 1)...)
		before := slices.Clone(room)
		text := fmt.Sprint(x)
		Right(room[:len(l)])
		Eval(x, room[:len(l)])
		Cond(above(x, second()), room[:len(l)])
		if !slices.Equal(room, before) || fmt.Sprint(x) != text {
			t.Errorf("Eval(%s, %v) made %s and %v of them", text, before, fmt.Sprint(x), room)
		}
	}
}

// R4: what went wrong in one call is not to be seen in the next one.
func TestCallsKnowNothingOfOneAnother(t *testing.T) {
	for range 3 {
		expect(t, lowest(), asked(5), tells(5))
		expect(t, beyond(), asked(5), fails(api.ErrRange))
		expect(t, lowest(), nil, nothing())
		expect(t, fixed(-1), asked(5), fails(api.ErrArg))
		expectCond(t, above(lowest(), beyond()), asked(5), false, api.ErrRange)
		expectCond(t, more(0), asked(5), true, api.OK)
		expectCond(t, lowest(), asked(5), false, api.ErrArg)
		expectCond(t, more(0), nil, false, api.OK)
	}
}
