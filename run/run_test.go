package run

import (
	"fmt"
	"math"
	"math/big"
	"slices"
	"strings"
	"testing"

	"haggler/api"
	"haggler/code"
	"haggler/parse"
	"haggler/tree"
	"haggler/value"
)

// most is the greatest amount there may be.
const most = 1000000000000

// op is an instruction that has no name.
func op(kind, n int) api.Instr { return api.Instr{Op: kind, N: n} }

func named(name string) api.Instr { return api.Instr{Op: api.OpFrom, Name: name} }

func push(n int) api.Instr { return op(api.OpPush, n) }

func lowest() api.Instr { return op(api.OpLowest, 0) }

func second() api.Instr { return op(api.OpSecond, 0) }

func less(n int) api.Instr { return op(api.OpLess, n) }

func cut(n int) api.Instr { return op(api.OpCut, n) }

func lesser() api.Instr { return op(api.OpMin, 0) }

func greater() api.Instr { return op(api.OpMax, 0) }

func otherwise(to int) api.Instr { return op(api.OpElse, to) }

func more(n int) api.Instr { return op(api.OpMore, n) }

func above() api.Instr { return op(api.OpAbove, 0) }

func unless(to int) api.Instr { return op(api.OpUnless, to) }

func jump(to int) api.Instr { return op(api.OpJump, to) }

// does is code of these instructions.
func does(l ...api.Instr) []api.Instr { return l }

// times is code that has an instruction so often.
func times(n int, in api.Instr) []api.Instr { return slices.Repeat(does(in), n) }

// asked are offers at these prices, of the sellers a, b, c and so on.
func asked(prices ...int) []api.Offer {
	var l []api.Offer
	for i, p := range prices {
		l = append(l, api.Offer{Seller: string(rune('a' + i)), Price: p})
	}
	return l
}

// answer is what Run answers.
type answer struct {
	n   int
	is  bool
	err api.Errno
}

func tells(n int) answer { return answer{n, true, api.OK} }

func nothing() answer { return answer{} }

func fails(err api.Errno) answer { return answer{err: err} }

// few tells of code no more than a message needs.
func few(l []api.Instr) string {
	return fmt.Sprintf("%d instructions, %.300q", len(l), fmt.Sprint(l[:min(len(l), 30)]))
}

// fewOffers tells of offers no more than a message needs.
func fewOffers(l []api.Offer) string {
	return fmt.Sprintf("%d offers, %.200q", len(l), fmt.Sprint(l[:min(len(l), 9)]))
}

// expect holds what Run and Steps answer against what they are to answer.
func expect(t *testing.T, l []api.Instr, offers []api.Offer, want answer, steps int) {
	t.Helper()
	n, is, err := Run(l, offers)
	if got := (answer{n, is, err}); got != want {
		t.Errorf("Run(%s, %s) = %v; want %v", few(l), fewOffers(offers), got, want)
	}
	if got := Steps(l, offers); got != steps {
		t.Errorf("Steps(%s, %s) = %d; want %d", few(l), fewOffers(offers), got, steps)
	}
}

// state is where the reference stands: each step makes another one.
type state struct {
	at, steps int
	stack     []*big.Int // nil stands for nothing
	err       api.Errno
}

// needs is how many an instruction takes that are to be there.
func needs(kind int) int {
	return map[int]int{api.OpLess: 1, api.OpCut: 1, api.OpElse: 1, api.OpUnless: 1, api.OpMin: 2, api.OpMax: 2, api.OpAbove: 2}[kind]
}

// prices are those of offers, in rising order, and nothing behind them.
func prices(offers []api.Offer) []*big.Int {
	var l []*big.Int
	for _, o := range offers {
		l = append(l, big.NewInt(int64(o.Price)))
	}
	slices.SortFunc(l, (*big.Int).Cmp)
	return append(l, nil, nil)
}

// put is a state one step on, with one more on its stack.
func (s state) put(n *big.Int) state {
	if len(s.stack) == 100 {
		return state{s.at, s.steps, nil, api.ErrCode}
	}
	s.stack = append(slices.Clip(s.stack), n)
	return s
}

// putIf is one with 1 more on its stack, or 0.
func (s state) putIf(is bool) state {
	if is {
		return s.put(big.NewInt(1))
	}
	return s.put(new(big.Int))
}

// after is the state behind an instruction, in numbers that have no bounds.
func (s state) after(in api.Instr, offers []api.Offer) state {
	s.steps++
	s.at++
	n := needs(in.Op)
	if len(s.stack) < n {
		return state{s.at, s.steps, nil, api.ErrCode}
	}
	args := s.stack[len(s.stack)-n:]
	s.stack = s.stack[:len(s.stack)-n]
	all := !slices.Contains(args, nil)
	to := state{in.N, s.steps, s.stack, api.OK}
	switch in.Op {
	case api.OpPush:
		return s.put(big.NewInt(int64(in.N)))
	case api.OpLowest, api.OpSecond:
		return s.put(prices(offers)[in.Op-api.OpLowest])
	case api.OpFrom:
		i := slices.IndexFunc(offers, func(o api.Offer) bool { return o.Seller == in.Name })
		if i < 0 {
			return s.put(nil)
		}
		return s.put(big.NewInt(int64(offers[i].Price)))
	case api.OpMore:
		return s.putIf(len(offers) > in.N)
	case api.OpJump:
		return to
	case api.OpElse:
		if all {
			return to.put(args[0])
		}
		return s
	case api.OpUnless:
		if !all || args[0].Sign() == 0 {
			return to
		}
		return s
	case api.OpAbove:
		return s.putIf(all && args[0].Cmp(args[1]) > 0)
	}
	if !all {
		return s.put(nil)
	}
	return s.putMade(in, args)
}

// putMade is one with what is made of amounts on its stack.
func (s state) putMade(in api.Instr, args []*big.Int) state {
	n := big.NewInt(int64(in.N))
	bound := func(n *big.Int) bool { return n.CmpAbs(big.NewInt(most)) <= 0 }
	ok := true
	switch in.Op {
	case api.OpLess:
		n.Sub(args[0], n)
	case api.OpCut:
		// Div rounds down, for what it divides by is above 0.
		part := n.Div(n.Mul(args[0], n), big.NewInt(10000))
		ok = bound(part)
		n = new(big.Int).Sub(args[0], part)
	case api.OpMin, api.OpMax:
		n = args[0]
		if (args[0].Cmp(args[1]) > 0) == (in.Op == api.OpMin) {
			n = args[1]
		}
	}
	if !ok || !bound(n) {
		return state{s.at, s.steps, nil, api.ErrRange}
	}
	return s.put(n)
}

// reference is what code that is right answers, and its steps.
func reference(l []api.Instr, offers []api.Offer) (answer, int) {
	var s state
	for s.err == api.OK && s.at < len(l) {
		s = s.after(l[s.at], offers)
	}
	if s.err == api.OK && len(s.stack) != 1 {
		s.err = api.ErrCode
	}
	if s.err != api.OK {
		return fails(s.err), s.steps
	}
	if s.stack[0] == nil {
		return nothing(), s.steps
	}
	return tells(int(s.stack[0].Int64())), s.steps
}

// compare holds what is answered for code that is right against the reference,
// and tells it.
func compare(t *testing.T, l []api.Instr, offers []api.Offer) answer {
	t.Helper()
	want, steps := reference(l, offers)
	expect(t, l, offers, want, steps)
	return want
}

// maker makes strategies, code and offers, as a short rule chooses.
type maker struct{ state uint32 }

// below is a number below n, which is at most 2^16.
func (m *maker) below(n int) int {
	m.state = m.state*1664525 + 1013904223
	return int(m.state>>16) * n >> 16
}

// number is a number from 0 to top, its edges more often than others.
func (m *maker) number(top int) int {
	return []int{0, 1, top, top / 10, m.below(1<<16) % (top + 1), m.below(1<<16) * 15258789 % (top + 1)}[m.below(6)]
}

// expr is an expression, or a condition, with at most so many calls in one
// another.
func (m *maker) expr(deep int, condition bool) api.Expr {
	arg := func() api.Expr { return m.expr(deep-1, false) }
	call := func(kind, n int, args ...api.Expr) api.Expr { return api.Expr{Kind: kind, N: n, Args: args} }
	if condition && (deep == 0 || m.below(3) == 0) {
		return call(api.ExMore, m.below(10))
	}
	if condition {
		return call(api.ExAbove, 0, arg(), arg())
	}
	if deep == 0 || m.below(8) == 0 {
		from := api.Expr{Kind: api.ExFrom, Name: string(rune('a' + m.below(10)))}
		return []api.Expr{call(api.ExLowest, 0), call(api.ExSecond, 0), from, call(api.ExFixed, m.number(most))}[m.below(4)]
	}
	switch kind := 5 + m.below(6); kind {
	case api.ExLess:
		return call(kind, m.number(most), arg())
	case api.ExCut:
		return call(kind, m.number(100000), arg())
	case api.ExIf:
		return call(kind, 0, m.expr(deep-1, true), arg(), arg())
	default:
		return call(kind, 0, arg(), arg())
	}
}

// instr is an instruction that fits at a place of code of so many. While few are
// on the stack, it is more often one that puts one more there.
func (m *maker) instr(at, size, stack int) api.Instr {
	kind := 1 + m.below(13)
	if stack < 1+m.below(3) {
		kind = []int{api.OpPush, api.OpLowest, api.OpSecond, api.OpFrom, api.OpMore}[m.below(5)]
	}
	in := op(kind, 0)
	switch kind {
	case api.OpPush, api.OpLess:
		in.N = m.number(most)
	case api.OpCut:
		in.N = m.number(100000)
	case api.OpMore:
		in.N = m.below(10)
	case api.OpElse, api.OpUnless, api.OpJump:
		in.N = min(at+1+m.below(4), size)
	case api.OpFrom:
		in.Name = string(rune('a' + m.below(10)))
	}
	return in
}

// code is code that is right, of so many instructions. What is left on the stack
// at its end is mostly brought together.
func (m *maker) code(size int) []api.Instr {
	stack := 0
	var l []api.Instr
	for at := range size {
		in := m.instr(at, size, stack)
		if stack >= size-at {
			in = does(lesser(), greater(), above())[m.below(3)]
		}
		switch in.Op {
		case api.OpPush, api.OpLowest, api.OpSecond, api.OpFrom, api.OpMore:
			stack++
		case api.OpMin, api.OpMax, api.OpAbove, api.OpUnless:
			stack--
		}
		l = append(l, in)
	}
	return l
}

// offers are up to 8 ones, often as low as others.
func (m *maker) offers() []api.Offer {
	prices := []int{1, most, 1 + m.number(most-1), 1 + m.below(1000), 500, 500, 501}
	var l []api.Offer
	for i := range m.below(9) {
		at := m.below(len(l) + 1)
		l = slices.Insert(l, at, api.Offer{Seller: string(rune('a' + i)), Price: prices[m.below(len(prices))]})
	}
	return l
}

// strategies are some of all kinds, that are right.
func strategies(times int) []api.Expr {
	var l []api.Expr
	for seed := range times {
		m := &maker{uint32(seed) * 2654435761}
		if x := m.expr(1+seed%6, false); tree.Right(x) {
			l = append(l, x)
		}
	}
	return l
}

// wrongOffers are lists that are not right, each for one reason.
func wrongOffers() [][]api.Offer {
	all := [][]api.Offer{asked(1, 1, 1, 1, 1, 1, 1, 1, 1), slices.Repeat(asked(5), 100000)}
	var bad []api.Offer
	for _, p := range []int{0, -1, most + 1, math.MaxInt, math.MinInt} {
		bad = append(bad, api.Offer{Seller: "bob", Price: p})
	}
	for _, name := range []string{"", " ", "lowest", "if", "abcdefghijklm", "7up", "Bob", "bo-b", "bob\n", "\xff"} {
		bad = append(bad, api.Offer{Seller: name, Price: 5})
	}
	bad = append(bad, api.Offer{Seller: "a", Price: 7}, api.Offer{Seller: "a", Price: 1})
	for _, o := range bad {
		all = append(all, append(asked(5), o), append(asked(5, 6, 7, 8, 9, 10, 11), o))
	}
	return all
}

// wrongCode is code that is not right, each for one reason. What comes ahead of
// that tells an amount, and nothing behind it is done.
func wrongCode() [][]api.Instr {
	all := [][]api.Instr{times(5001, more(0)), append(does(push(5), jump(5001)), times(4999, less(0))...)}
	for _, in := range []api.Instr{
		{}, op(-1, 0), op(14, 0), op(99, 0), op(math.MaxInt, 0), op(math.MinInt, 0),
		push(-1), push(most + 1), push(math.MinInt), less(-1), less(most + 1), cut(-1), cut(100001), more(-1), more(1001),
		op(api.OpLowest, 1), op(api.OpSecond, -1), op(api.OpMin, 1), op(api.OpMax, 1), op(api.OpAbove, 1), {Op: api.OpFrom, N: 1, Name: "a"},
		named(""), named("if"), named("Bob"), named("abcdefghijklm"), {Op: api.OpLowest, Name: "a"}, {Op: api.OpPush, Name: "a"}, {Op: api.OpJump, N: 3, Name: "a"},
		otherwise(0), otherwise(2), otherwise(4), unless(2), unless(4), jump(2), jump(4), jump(-1), jump(math.MaxInt),
	} {
		all = append(all, does(push(5), jump(3), in))
	}
	return append(all, does(jump(0)), does(push(1), jump(1)), does(push(1), unless(0)), does(push(1), otherwise(1)))
}

// The chapter's example.
func TestExample(t *testing.T) {
	for _, offers := range [][]api.Offer{nil, asked(5), asked(7, 5, 9)} {
		expect(t, does(lowest(), lesser()), offers, fails(api.ErrCode), 2)
	}
}

// Z1: what puts one on the stack.
func TestPuts(t *testing.T) {
	for _, n := range []int{0, 1, 99, most - 1, most} {
		expect(t, does(push(n)), nil, tells(n), 1)
		expect(t, does(push(n)), asked(7, 5), tells(n), 1)
	}
	l := []api.Offer{{Seller: "bob", Price: 700}, {Seller: "ann", Price: 500}, {Seller: "eve", Price: 600}}
	for seller, price := range map[string]int{"bob": 700, "ann": 500, "eve": 600} {
		expect(t, does(named(seller)), l, tells(price), 1)
		expect(t, does(named(seller)), nil, nothing(), 1)
	}
	expect(t, does(named("bo")), l, nothing(), 1)
	expect(t, does(lowest()), l, tells(500), 1)
	expect(t, does(second()), l, tells(600), 1)
	expect(t, does(lowest()), l[:1], tells(700), 1)
	expect(t, does(second()), l[:1], nothing(), 1)
	expect(t, does(lowest()), nil, nothing(), 1)
	expect(t, does(second()), []api.Offer{}, nothing(), 1)
	expect(t, does(second()), asked(900, 500, 700, 500), tells(500), 1)
	expect(t, does(lowest()), asked(8, 7, 6, 5, 4, 3, 2, 1), tells(1), 1)
	for n := range 9 {
		for limit := range 12 {
			want := 0
			if n > limit {
				want = 1
			}
			expect(t, does(more(limit)), asked(1, 2, 3, 4, 5, 6, 7, 8)[:n], tells(want), 1)
		}
		expect(t, does(more(1000)), asked(1, 2, 3, 4, 5, 6, 7, 8)[:n], tells(0), 1)
	}
}

// Z1: what makes another one of one, up to the bounds.
func TestLessAndCut(t *testing.T) {
	for _, n := range []int{0, 1, 7, most - 1, most} {
		expect(t, does(push(0), less(n)), nil, tells(-n), 2)
		expect(t, does(push(n), less(n)), nil, tells(0), 2)
		expect(t, does(lowest(), less(n)), asked(7), tells(7-n), 2)
		expect(t, does(lowest(), less(n)), nil, nothing(), 2)
		expect(t, does(push(0), less(n), less(most-n)), nil, tells(-most), 3)
		expect(t, does(push(0), less(n), less(most-n), less(1), push(5)), nil, fails(api.ErrRange), 4)
	}
	for _, c := range [][3]int{{999, 250, 975}, {1, 1, 1}, {1, 9999, 1}, {1, 10000, 0}, {1, 20000, -1}, {0, 100000, 0}, {5, 0, 5}, {most, 5000, most / 2}, {most / 10, 100000, most/10 - most}} {
		expect(t, does(push(c[0]), cut(c[1])), nil, tells(c[2]), 2)
	}
	for _, c := range [][3]int{{1, 333, 0}, {1, 1, 0}, {1, 0, -1}, {999, 250, -974}, {100, 20000, 100}, {most, 9999, -most / 10000}, {most / 10, 100000, most - most/10}} {
		expect(t, does(push(0), less(c[0]), cut(c[1])), nil, tells(c[2]), 3)
	}
	expect(t, does(named("a"), cut(250)), nil, nothing(), 2)
	expect(t, does(second(), cut(100000)), asked(5), nothing(), 2)
	// The part is beyond, though what is left would not be.
	expect(t, does(push(most), cut(10001), push(1)), nil, fails(api.ErrRange), 2)
	expect(t, does(push(most/10+1), cut(100000)), nil, fails(api.ErrRange), 2)
	expect(t, does(push(0), less(most), cut(20001)), nil, fails(api.ErrRange), 3)
}

// Z1: what takes two, in their order.
func TestTakesTwo(t *testing.T) {
	for _, c := range [][2]int{{1, 2}, {2, 1}, {5, 5}, {0, most}, {most, most - 1}, {0, 0}} {
		is := 0
		if c[0] > c[1] {
			is = 1
		}
		expect(t, does(push(c[0]), push(c[1]), lesser()), nil, tells(min(c[0], c[1])), 3)
		expect(t, does(push(c[0]), push(c[1]), greater()), nil, tells(max(c[0], c[1])), 3)
		expect(t, does(push(c[0]), push(c[1]), above()), nil, tells(is), 3)
		below := does(push(0), less(c[1]), push(0), less(c[0]))
		expect(t, append(slices.Clip(below), lesser()), nil, tells(-max(c[0], c[1])), 5)
		expect(t, append(slices.Clip(below), greater()), nil, tells(-min(c[0], c[1])), 5)
		expect(t, append(slices.Clip(below), above()), nil, tells(is), 5)
	}
	for _, first := range does(lowest(), push(0), push(5), push(most)) {
		for _, in := range does(lesser(), greater()) {
			expect(t, does(first, second(), in), nil, nothing(), 3)
			expect(t, does(second(), first, in), nil, nothing(), 3)
		}
		expect(t, does(first, second(), above()), nil, tells(0), 3)
		expect(t, does(second(), first, above()), nil, tells(0), 3)
		expect(t, does(second(), first, less(most), above()), nil, tells(0), 4)
	}
	// What lies beneath stays.
	expect(t, does(push(9), push(3), push(4), lesser(), above()), nil, tells(1), 5)
	expect(t, does(push(9), push(3), push(4), lesser()), nil, fails(api.ErrCode), 4)
}

// Z1: OpElse leads over what is not needed, and leaves the amount.
func TestElse(t *testing.T) {
	for _, n := range []int{0, 1, most} {
		expect(t, does(push(n), otherwise(3), push(7)), nil, tells(n), 2)
		expect(t, does(push(0), less(n), otherwise(4), push(7)), nil, tells(-n), 3)
	}
	expect(t, does(lowest(), otherwise(3), push(7)), nil, tells(7), 3)
	expect(t, does(lowest(), otherwise(3), second()), nil, nothing(), 3)
	expect(t, does(lowest(), otherwise(3), push(7)), asked(5), tells(5), 2)
	// It may lead to the next place, and then nothing is taken for good.
	expect(t, does(push(5), otherwise(2)), nil, tells(5), 2)
	expect(t, does(lowest(), otherwise(2)), nil, fails(api.ErrCode), 2)
	expect(t, does(push(3), lowest(), otherwise(3)), nil, tells(3), 3)
	// What is led over is not done, whatever it is.
	expect(t, does(push(5), otherwise(4), lesser(), above(), less(1)), nil, tells(4), 3)
	expect(t, does(lowest(), otherwise(4), lesser(), above(), less(1)), nil, fails(api.ErrCode), 3)
}

// Z1: OpUnless leads by nothing, or 0, and by no other one.
func TestUnless(t *testing.T) {
	for _, n := range []int{1, 2, most} {
		expect(t, does(push(n), unless(4), push(5), jump(5), push(6)), nil, tells(5), 4)
		expect(t, does(push(0), less(n), unless(5), push(5), jump(6), push(6)), nil, tells(5), 5)
		expect(t, does(push(n), less(n), unless(5), push(5), jump(6), push(6)), nil, tells(6), 4)
	}
	expect(t, does(push(0), unless(4), push(5), jump(5), push(6)), nil, tells(6), 3)
	expect(t, does(lowest(), unless(4), push(5), jump(5), push(6)), nil, tells(6), 3)
	expect(t, does(lowest(), unless(4), push(5), jump(5), push(6)), asked(1), tells(5), 4)
	for n := range 9 {
		for limit := range 10 {
			want, steps := 6, 3
			if n > limit {
				want, steps = 5, 4
			}
			expect(t, does(more(limit), unless(4), push(5), jump(5), push(6)), asked(1, 2, 3, 4, 5, 6, 7, 8)[:n], tells(want), steps)
		}
	}
	// It takes one in either case.
	expect(t, does(push(1), unless(2)), nil, fails(api.ErrCode), 2)
	expect(t, does(push(0), unless(2)), nil, fails(api.ErrCode), 2)
	expect(t, does(push(7), push(0), unless(4), lesser()), nil, tells(7), 3)
	expect(t, does(push(7), push(1), unless(4), lesser()), nil, fails(api.ErrCode), 4)
}

// Z1: OpJump leads and takes nothing.
func TestJump(t *testing.T) {
	expect(t, does(push(5), jump(2)), nil, tells(5), 2)
	expect(t, does(push(5), jump(4), lesser(), above()), nil, tells(5), 2)
	expect(t, does(jump(2), lesser(), push(5)), nil, tells(5), 2)
	expect(t, does(jump(1)), nil, fails(api.ErrCode), 1)
	expect(t, does(jump(1), jump(2), jump(3), push(5)), nil, tells(5), 4)
	expect(t, append(does(push(5), jump(5000)), times(4998, lesser())...), nil, tells(5), 2)
}

// Z1: the stack's one element, and no more than that.
func TestWhatIsLeft(t *testing.T) {
	expect(t, nil, nil, fails(api.ErrCode), 0)
	expect(t, []api.Instr{}, asked(5), fails(api.ErrCode), 0)
	for n := 2; n <= 100; n++ {
		expect(t, times(n, push(5)), nil, fails(api.ErrCode), n)
		expect(t, times(n, lowest()), nil, fails(api.ErrCode), n)
		expect(t, append(times(n, push(5)), times(n-1, lesser())...), nil, tells(5), 2*n-1)
		expect(t, append(times(n, push(5)), times(n-2, lesser())...), nil, fails(api.ErrCode), 2*n-2)
	}
}

// Z1: at most 100 stand on the stack.
func TestFullStack(t *testing.T) {
	full := func(l ...api.Instr) []api.Instr { return append(times(99, push(7)), l...) }
	for _, last := range does(push(5), lowest(), second(), named("a"), named("z"), more(0)) {
		for _, over := range does(push(5), lowest(), second(), named("a"), named("z"), more(0), more(9)) {
			for _, offers := range [][]api.Offer{nil, asked(5), asked(5, 6)} {
				expect(t, full(last), offers, fails(api.ErrCode), 100)
				expect(t, full(last, over), offers, fails(api.ErrCode), 101)
				expect(t, full(last, over, lesser()), offers, fails(api.ErrCode), 101)
			}
		}
	}
	// What takes ahead of that has room, on a full stack too.
	for _, in := range does(less(0), less(3), cut(0), cut(5000), lesser(), greater(), above(), otherwise(101), otherwise(110), unless(101), jump(101)) {
		for _, last := range does(push(7), second()) {
			compare(t, append(full(last, in), times(98, greater())...), nil)
			compare(t, append(full(last, in), times(99, greater())...), nil)
			compare(t, append(full(last, in), times(100, greater())...), nil)
		}
	}
	expect(t, append(full(push(9), less(1)), times(99, greater())...), nil, tells(8), 200)
	expect(t, append(full(push(9), otherwise(101)), times(99, greater())...), nil, tells(9), 200)
	// It is full by what stands on it, not by what was put there.
	var over []api.Instr
	for range 1000 {
		over = append(over, push(9), push(1), lesser(), push(0), unless(len(over)+5))
	}
	expect(t, append(slices.Clip(over[:5]), jump(6)), nil, tells(1), 6)
	expect(t, over[:496], nil, fails(api.ErrCode), 496)
	expect(t, append(slices.Clip(over[:495]), times(98, greater())...), nil, tells(1), 593)
	expect(t, over, nil, fails(api.ErrCode), 497)
}

// Z1: ErrCode where one that is taken is not there.
func TestTakesWhatIsNotThere(t *testing.T) {
	for kind := 1; kind <= 13; kind++ {
		for have := range 3 {
			in := op(kind, 0)
			switch kind {
			case api.OpElse, api.OpUnless, api.OpJump:
				in.N = have + 1
			case api.OpFrom:
				in.Name = "a"
			}
			for _, put := range does(push(5), lowest()) {
				l := append(times(have, put), in)
				want, _ := reference(l, nil)
				if have < needs(kind) {
					want = fails(api.ErrCode)
				}
				expect(t, l, nil, want, have+1)
				if have < needs(kind) {
					// It ends there, whatever would come.
					expect(t, append(l, push(1), jump(len(l)+3), above()), nil, want, have+1)
				}
			}
		}
	}
}

// Z1: the first error ends it, whichever it is.
func TestFirstError(t *testing.T) {
	beyond := does(push(most), cut(100000))
	expect(t, append(slices.Clip(beyond), lesser()), nil, fails(api.ErrRange), 2)
	expect(t, append(does(lesser()), beyond...), nil, fails(api.ErrCode), 1)
	expect(t, append(does(push(1)), beyond...), nil, fails(api.ErrRange), 3)
	expect(t, append(times(98, push(1)), append(slices.Clip(beyond), push(1))...), nil, fails(api.ErrRange), 100)
	expect(t, append(times(100, push(1)), beyond...), nil, fails(api.ErrCode), 101)
	expect(t, append(does(push(5), jump(4)), beyond...), nil, tells(5), 2)
	expect(t, does(push(5), otherwise(4), push(most), cut(100000)), nil, tells(5), 2)
	expect(t, does(lowest(), otherwise(4), push(most), cut(100000)), nil, fails(api.ErrRange), 4)
	expect(t, does(push(0), unless(5), push(most), cut(100000), jump(6), push(3)), nil, tells(3), 3)
	expect(t, does(push(1), unless(5), push(most), cut(100000), jump(6), push(3)), nil, fails(api.ErrRange), 4)
}

// Z1, Z2: ErrArg ahead of ErrCode, and that ahead of all else; no step is done.
func TestWrongArguments(t *testing.T) {
	good := [][]api.Instr{nil, does(push(5)), does(lowest()), does(lesser()), does(push(most), cut(100000)), times(101, push(1))}
	for _, offers := range wrongOffers() {
		for _, l := range append(good, wrongCode()...) {
			expect(t, l, offers, fails(api.ErrArg), 0)
		}
	}
	for _, l := range wrongCode() {
		for _, offers := range [][]api.Offer{nil, asked(5), asked(1, 2, 3, 4, 5, 6, 7, 8)} {
			expect(t, l, offers, fails(api.ErrCode), 0)
		}
	}
}

// Z1, Z2: as much code as may be.
func TestLongCode(t *testing.T) {
	expect(t, append(does(push(5000)), times(4999, less(1))...), nil, tells(1), 5000)
	expect(t, append(does(push(5000)), times(5000, less(1))...), nil, fails(api.ErrCode), 0)
	expect(t, append(does(lowest()), times(4999, cut(1))...), asked(9999), compare(t, append(does(lowest()), times(4999, cut(1))...), asked(9999)), 5000)
	var l []api.Instr
	for len(l) < 4998 {
		l = append(l, second(), unless(len(l)+2))
	}
	expect(t, append(l, lowest(), less(1)), asked(1, 2, 3, 4, 5, 6, 7, 8), tells(0), 5000)
	l = nil
	for len(l) < 4999 {
		l = append(l, jump(len(l)+1))
	}
	expect(t, append(l, lowest()), asked(3), tells(3), 5000)
}

// Z1, Z2: all code of at most three instructions, and some of four.
func TestAllShortCode(t *testing.T) {
	kinds := does(push(0), push(most), lowest(), second(), named("b"), less(5), less(most), cut(100000), cut(5000), lesser(), greater(), otherwise(0), more(1), above(), unless(0), jump(0))
	lists := [][]api.Instr{nil}
	from := 0
	for size := range 4 {
		upTo := len(lists)
		for i, l := range lists[from:upTo] {
			for j, in := range kinds {
				if size == 3 && (i+j)%3 > 0 {
					continue
				}
				lists = append(lists, append(slices.Clip(l), in))
			}
		}
		from = upTo
	}
	for _, kinds := range lists {
		for step := 1; step <= 2; step++ {
			l := slices.Clone(kinds)
			for at := range l {
				if l[at].Op == api.OpElse || l[at].Op == api.OpUnless || l[at].Op == api.OpJump {
					l[at].N = min(at+step, len(l))
				}
			}
			for _, offers := range [][]api.Offer{nil, asked(7), asked(9, 6)} {
				compare(t, l, offers)
			}
		}
	}
}

// Z1, Z2: what a short rule makes tells all that may be told.
func TestMadeCode(t *testing.T) {
	count := map[string]int{}
	for seed := range 40000 {
		m := &maker{uint32(seed) * 2654435761}
		l := m.code(m.below(40))
		if !code.Right(l) {
			t.Fatalf("%s is not right", few(l))
		}
		got := compare(t, l, m.offers())
		count[fmt.Sprint(got.is, got.err)]++
	}
	for _, one := range []answer{tells(0), nothing(), fails(api.ErrRange), fails(api.ErrCode)} {
		if key := fmt.Sprint(one.is, one.err); count[key] < 1000 {
			t.Errorf("only %d of %s", count[key], key)
		}
	}
}

// same holds what is told of a strategy's code against what the strategy tells.
func same(t *testing.T, x api.Expr, offers []api.Offer) answer {
	t.Helper()
	l, err := code.Compile(x)
	if err != api.OK {
		t.Fatalf("no code of a strategy: %d", err)
	}
	n, is, err := value.Eval(x, offers)
	want := answer{n, is, err}
	n, is, err = Run(l, offers)
	if got := (answer{n, is, err}); got != want {
		t.Errorf("Run(%s, %s) = %v; the strategy tells %v", few(l), fewOffers(offers), got, want)
	}
	if steps := Steps(l, offers); steps > len(l) || steps == 0 && want.err != api.ErrArg {
		t.Errorf("Steps(%s, %s) = %d", few(l), fewOffers(offers), steps)
	}
	return want
}

// Z3: what is compiled tells what the strategy tells.
func TestStrategies(t *testing.T) {
	count := map[string]int{}
	for seed, x := range strategies(20000) {
		m := &maker{uint32(seed)}
		for range 3 {
			got := same(t, x, m.offers())
			count[fmt.Sprint(got.is, got.err)]++
		}
		same(t, x, nil)
	}
	for _, one := range []answer{tells(0), nothing(), fails(api.ErrRange)} {
		if key := fmt.Sprint(one.is, one.err); count[key] < 2000 {
			t.Errorf("only %d of %s", count[key], key)
		}
	}
	for _, x := range strategies(100) {
		for _, offers := range wrongOffers() {
			same(t, x, offers)
		}
	}
}

// Z3: strategies as deep and as long as may be.
func TestDeepAndLongStrategies(t *testing.T) {
	deep := func(ahead, behind string) string {
		return strings.Repeat(ahead, 31) + "lowest" + strings.Repeat(behind, 31)
	}
	for _, text := range []string{
		deep("min(", ", 1.00)"), deep("min(1.00, ", ")"), deep("else(second, ", ")"), deep("else(", ", second)"), deep("less(", ", 0.07)"),
		deep("if(more(2), second, ", ")"), deep("if(more(2), ", ", second)"),
		strings.Repeat("if(more(0), ", 30) + "lowest" + strings.Repeat(", cut(10000000000.00, 100000))", 30),
		"max(lowest, " + strings.Repeat("min(0.05, ", 30) + "second" + strings.Repeat(")", 31),
	} {
		x, err, at := parse.Parse(text)
		if err != api.OK {
			t.Fatalf("Parse(%s) = %d at %d", text, err, at)
		}
		for _, offers := range [][]api.Offer{nil, asked(900), asked(500, 700), asked(500, 700, 300)} {
			same(t, x, offers)
		}
	}
	wide := api.Expr{Kind: api.ExLowest}
	for y := wide; tree.Right(y); y = (api.Expr{Kind: api.ExElse, Args: []api.Expr{y, y}}) {
		wide = y
		same(t, wide, nil)
		same(t, wide, asked(5))
	}
}

// Z2, Z3: of what is compiled only what is needed is done.
func TestStepsOfStrategies(t *testing.T) {
	for _, c := range []struct {
		text  string
		steps []int // without offers, with one, with two
	}{
		{"lowest", []int{1, 1, 1}},
		{"else(less(lowest, 0.01), 9.99)", []int{4, 3, 3}},
		{"else(else(second, lowest), 9.99)", []int{5, 4, 3}},
		{"if(more(1), less(lowest, 0.01), 9.99)", []int{3, 3, 5}},
		{"if(above(second, 0.01), lowest, else(lowest, 5.00))", []int{7, 6, 6}},
		{"less(cut(10000000000.00, 100000), 0.01)", []int{2, 2, 2}},
		{"else(lowest, cut(10000000000.00, 100000))", []int{4, 2, 2}},
	} {
		x, err, _ := parse.Parse(c.text)
		if err != api.OK {
			t.Fatalf("Parse(%s) = %d", c.text, err)
		}
		l, _ := code.Compile(x)
		for n, steps := range c.steps {
			if got := Steps(l, asked(500, 600)[:n]); got != steps {
				t.Errorf("Steps of %s with %d offers = %d; want %d", c.text, n, got, steps)
			}
		}
	}
}

// R3: what is handed in is not written into, nor is what stands behind it.
func TestArgumentsStay(t *testing.T) {
	for seed := range 1000 {
		m := &maker{uint32(seed) * 2654435761}
		l, offers := m.code(m.below(40)), m.offers()
		roomL, room := append(slices.Clone(l), op(99, -1), op(7, 0)), append(slices.Clone(offers), asked(3, 2, 1)...)
		beforeL, before := slices.Clone(roomL), slices.Clone(room)
		Run(roomL[:len(l)], room[:len(offers)])
		Steps(roomL[:len(l)], room[:len(offers)])
		if !slices.Equal(roomL, beforeL) || !slices.Equal(room, before) {
			t.Errorf("%s, %v became %s, %v", few(beforeL), before, few(roomL), room)
		}
	}
}

// R4: what one call was given is not to be seen in the next one.
func TestCallsKnowNothingOfOneAnother(t *testing.T) {
	for range 3 {
		expect(t, does(lowest(), less(1)), asked(5), tells(4), 2)
		expect(t, times(101, push(1)), asked(5), fails(api.ErrCode), 101)
		expect(t, does(lesser()), nil, fails(api.ErrCode), 1)
		expect(t, does(push(most), cut(100000)), nil, fails(api.ErrRange), 2)
		expect(t, does(push(-1)), nil, fails(api.ErrCode), 0)
		expect(t, does(push(1)), asked(0), fails(api.ErrArg), 0)
		expect(t, does(lowest()), nil, nothing(), 1)
	}
}
