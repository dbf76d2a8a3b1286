package code

import (
	"fmt"
	"math"
	"slices"
	"strconv"
	"strings"
	"testing"

	"haggler/api"
	"haggler/tree"
)

// most is the greatest amount there may be.
const most = 1000000000000

func call(kind, n int, args ...api.Expr) api.Expr { return api.Expr{Kind: kind, N: n, Args: args} }

func lowest() api.Expr { return call(api.ExLowest, 0) }

func second() api.Expr { return call(api.ExSecond, 0) }

func fixed(n int) api.Expr { return call(api.ExFixed, n) }

func from(name string) api.Expr { return api.Expr{Kind: api.ExFrom, Name: name} }

func less(n int, x api.Expr) api.Expr { return call(api.ExLess, n, x) }

func otherwise(a, b api.Expr) api.Expr { return call(api.ExElse, 0, a, b) }

func more(n int) api.Expr { return call(api.ExMore, n) }

func above(a, b api.Expr) api.Expr { return call(api.ExAbove, 0, a, b) }

func when(c, a, b api.Expr) api.Expr { return call(api.ExIf, 0, c, a, b) }

// op is an instruction that has no name.
func op(kind, n int) api.Instr { return api.Instr{Op: kind, N: n} }

func named(name string) api.Instr { return api.Instr{Op: api.OpFrom, Name: name} }

// brief is an expression's text, or what little a message needs of one that has
// none, for it may be endless.
func brief(x api.Expr) string {
	if s, err := tree.Print(x); err == api.OK {
		return s
	}
	return fmt.Sprintf("{%d %d %.20q, %d Args}", x.Kind, x.N, x.Name, len(x.Args))
}

// few tells of code no more than a message needs.
func few(l []api.Instr) string {
	return fmt.Sprintf("%d instructions, %.300q", len(l), fmt.Sprint(l[:min(len(l), 30)]))
}

// expect holds what Compile answers against what it is to answer.
func expect(t *testing.T, x api.Expr, want ...api.Instr) {
	t.Helper()
	l, err := Compile(x)
	if err != api.OK || !slices.Equal(l, want) {
		t.Errorf("Compile(%.300s) = %s, %d; want %s, 0", brief(x), few(l), err, few(want))
	}
}

// refused holds that Compile refuses an expression.
func refused(t *testing.T, x api.Expr) {
	t.Helper()
	if l, err := Compile(x); err != api.ErrArg || len(l) != 0 {
		t.Errorf("Compile(%.300s) = %s, %d; want none, %d", brief(x), few(l), err, api.ErrArg)
	}
}

// expectRight holds what Right answers against what it is to answer.
func expectRight(t *testing.T, l []api.Instr, want bool) {
	t.Helper()
	if got := Right(l); got != want {
		t.Errorf("Right(%s) = %t", few(l), got)
	}
}

// expectText holds what Text answers against what it is to answer.
func expectText(t *testing.T, l []api.Instr, want string) {
	t.Helper()
	if got := Text(l); got != want {
		t.Errorf("Text(%s) = %.300q; want %.300q", few(l), got, want)
	}
}

// length is how many instructions a strategy comes to.
func length(x api.Expr) int {
	n := 1
	if x.Kind == api.ExIf {
		n = 2
	}
	for _, arg := range x.Args {
		n += length(arg)
	}
	return n
}

// reference is a strategy's code that begins at a place. It knows from the
// lengths of the pieces where they begin, so that nothing is to be filled in.
func reference(x api.Expr, at int) []api.Instr {
	var pieces [][]api.Instr
	next := at
	for i, arg := range x.Args {
		if x.Kind == api.ExElse && i == 1 || x.Kind == api.ExIf && i > 0 {
			next++
		}
		pieces = append(pieces, reference(arg, next))
		next += length(arg)
	}
	end := at + length(x)
	switch x.Kind {
	case api.ExElse:
		return slices.Concat(pieces[0], []api.Instr{op(9, end)}, pieces[1])
	case api.ExIf:
		unless, jump := op(12, end-len(pieces[2])), op(13, end)
		return slices.Concat(pieces[0], []api.Instr{unless}, pieces[1], []api.Instr{jump}, pieces[2])
	}
	own := []int{0, 2, 3, 4, 1, 5, 6, 7, 8, 0, 0, 10, 11}[x.Kind]
	return append(slices.Concat(pieces...), api.Instr{Op: own, N: x.N, Name: x.Name})
}

// open is a piece of code that leads to a place: what is to be made there of the
// expressions that were made so far.
type open struct{ to, kind int }

// undo is the strategy that code was made of: it goes through the code once, and
// makes an expression at the place where that one's code ends. It tells false,
// if there is none.
func undo(l []api.Instr) (api.Expr, bool) {
	var made []api.Expr
	var opened []open
	kinds := []int{0, 4, 1, 2, 3, 5, 6, 7, 8, 9, 11, 12, 10, 0}
	args := []int{0, 0, 0, 0, 0, 1, 1, 2, 2, 0, 0, 2}
	build := func(x api.Expr, n int) bool {
		if len(made) < n {
			return false
		}
		if n > 0 {
			x.Args = slices.Clone(made[len(made)-n:])
		}
		made = append(made[:len(made)-n], x)
		return true
	}
	for at := range len(l) + 1 {
		for len(opened) > 0 && opened[len(opened)-1].to == at {
			kind := opened[len(opened)-1].kind
			opened = opened[:len(opened)-1]
			if !build(call(kind, 0), map[int]int{api.ExElse: 2, api.ExIf: 3}[kind]) {
				return api.Expr{}, false
			}
		}
		if at == len(l) {
			break
		}
		switch in := l[at]; in.Op {
		case api.OpElse:
			opened = append(opened, open{in.N, api.ExElse})
		case api.OpUnless:
			if in.N < 1 || in.N > len(l) || l[in.N-1].Op != api.OpJump {
				return api.Expr{}, false
			}
		case api.OpJump:
			opened = append(opened, open{in.N, api.ExIf})
		default:
			if !build(api.Expr{Kind: kinds[in.Op], N: in.N, Name: in.Name}, args[in.Op]) {
				return api.Expr{}, false
			}
		}
	}
	if len(made) != 1 || len(opened) > 0 {
		return api.Expr{}, false
	}
	return made[0], true
}

// count is how many expressions of a kind there are.
func count(x api.Expr, kind int) int {
	n := 0
	if x.Kind == kind {
		n = 1
	}
	for _, arg := range x.Args {
		n += count(arg, kind)
	}
	return n
}

// compare holds a strategy's code against the reference, and against what else
// the promises tell of it.
func compare(t *testing.T, x api.Expr) {
	t.Helper()
	expect(t, x, reference(x, 0)...)
	l, _ := Compile(x)
	expectRight(t, l, true)
	if want := tree.Size(x) + count(x, api.ExIf); len(l) != want {
		t.Errorf("Compile(%.300s): %d instructions; want %d", brief(x), len(l), want)
	}
	if back, ok := undo(l); !ok || !tree.Same(back, x) {
		t.Errorf("Compile(%.300s) = %s, which is that of %.300s", brief(x), few(l), brief(back))
	}
}

// maker makes strategies and code, as a short rule chooses.
type maker struct{ state uint32 }

// below is a number below n, which is at most 2^16.
func (m *maker) below(n int) int {
	m.state = m.state*1664525 + 1013904223
	return int(m.state>>16) * n >> 16
}

// number is a number from 0 to top, its edges more often than others.
func (m *maker) number(top int) int {
	return []int{0, 1, top, top / 10, m.below(1<<16) % (top + 1), m.below(1<<16) * 15258789 % (top + 1)}[m.below(6)]
}

// expr is an expression, or a condition, with at most so many calls in one
// another.
func (m *maker) expr(deep int, condition bool) api.Expr {
	arg := func() api.Expr { return m.expr(deep-1, false) }
	if condition && (deep == 0 || m.below(3) == 0) {
		return more(m.number(1000))
	}
	if condition {
		return above(arg(), arg())
	}
	if deep == 0 || m.below(8) == 0 {
		return []api.Expr{lowest(), second(), from(string(rune('a' + m.below(26)))), fixed(m.number(most))}[m.below(4)]
	}
	switch kind := 5 + m.below(6); kind {
	case api.ExLess:
		return less(m.number(most), arg())
	case api.ExCut:
		return call(kind, m.number(100000), arg())
	case api.ExIf:
		return when(m.expr(deep-1, true), arg(), arg())
	default:
		return call(kind, 0, arg(), arg())
	}
}

// instr is an instruction at a place of code of so many: mostly one that fits.
func (m *maker) instr(at, size int) api.Instr {
	in := op(1+m.below(13), 0)
	switch in.Op {
	case api.OpPush, api.OpLess:
		in.N = m.number(most)
	case api.OpCut:
		in.N = m.number(100000)
	case api.OpMore:
		in.N = m.number(1000)
	case api.OpElse, api.OpUnless, api.OpJump:
		in.N = at + 1 + m.below(size-at)
	case api.OpFrom:
		in.Name = []string{"a", "bob", "a1", "abcdefghijkl"}[m.below(4)]
	}
	switch m.below(100) {
	case 0:
		in.Op = []int{0, -1, 14, 1 + m.below(13)}[m.below(4)]
	case 1:
		in.N = []int{-1, 0, 1, at, size + 1, 1001, 100001, most + 1}[m.below(8)]
	case 2:
		in.Name = []string{"", "a", "if", "A", "abcdefghijklm"}[m.below(5)]
	}
	return in
}

// strategies are some of all kinds, that are right.
func strategies(times int) []api.Expr {
	var l []api.Expr
	for seed := range times {
		m := &maker{uint32(seed) * 2654435761}
		if x := m.expr(1+seed%6, false); tree.Right(x) {
			l = append(l, x)
		}
	}
	return l
}

// shortStrategies are all of at most two calls over few others.
func shortStrategies() []api.Expr {
	leaves := []api.Expr{lowest(), second(), from("a"), from("b"), fixed(0), fixed(1)}
	level := leaves
	all := slices.Clone(leaves)
	for range 2 {
		var next []api.Expr
		for _, x := range level {
			for _, n := range []int{0, 1} {
				next = append(next, less(n, x), call(api.ExCut, n, x))
			}
			for _, y := range leaves {
				for _, kind := range []int{api.ExMin, api.ExMax, api.ExElse} {
					next = append(next, call(kind, 0, x, y), call(kind, 0, y, x))
				}
				next = append(next, when(above(x, y), x, y), when(above(y, x), y, x), when(more(0), x, y), when(more(1), x, y), when(more(1), y, x))
			}
		}
		all = append(all, next...)
		level = next
	}
	return all
}

// wrongStrategies are expressions that are not right, each for one reason.
func wrongStrategies() []api.Expr {
	low := lowest()
	endless := make([]api.Expr, 2)
	endless[0], endless[1] = call(api.ExMin, 0, endless...), low
	endless[0].Args = endless
	return []api.Expr{
		{}, call(-1, 0), call(13, 0), call(math.MaxInt, 0), call(math.MinInt, 0),
		more(0), more(5), above(low, low),
		call(api.ExLowest, 1), call(api.ExLowest, 0, low), {Kind: api.ExSecond, Name: "a"}, from(""), from("if"), from("A"), from("abcdefghijklm"),
		{Kind: api.ExFrom, N: 1, Name: "a"}, fixed(-1), fixed(most + 1), fixed(math.MinInt), {Kind: api.ExFixed, Name: "a"},
		call(api.ExLess, 1), less(-1, low), less(most+1, low), call(api.ExLess, 1, low, low), less(1, more(1)),
		call(api.ExCut, 1), call(api.ExCut, -1, low), call(api.ExCut, 100001, low), call(api.ExCut, 1, above(low, low)),
		call(api.ExMin, 0), call(api.ExMin, 0, low), call(api.ExMin, 1, low, low), call(api.ExMin, 0, low, low, low), call(api.ExMin, 0, low, call(0, 0)),
		call(api.ExMax, 0, low), call(api.ExMax, 0, more(1), low), call(api.ExElse, 0), call(api.ExElse, 0, low), otherwise(low, more(1)), otherwise(fixed(1), fixed(-1)),
		call(api.ExElse, 1, low, low), call(api.ExElse, 0, low, low, low), {Kind: api.ExElse, Name: "a", Args: []api.Expr{low, low}},
		call(api.ExIf, 0), when(low, low, low), when(more(1), more(1), low), when(more(1), low, above(low, low)), call(api.ExIf, 0, more(1), low),
		call(api.ExIf, 1, more(1), low, low), call(api.ExIf, 0, more(1), low, low, low), when(call(api.ExMore, 1, low), low, low),
		when(more(-1), low, low), when(more(1001), low, low), when(above(low, fixed(-1)), low, low), when(call(api.ExAbove, 0, low), low, low), when(more(0), low, fixed(-1)),
		nested(32, low), nested(1000, low), long(2001), long(5000), endless[0], when(above(endless[0], low), low, low),
	}
}

// nested is an expression in so many calls.
func nested(times int, x api.Expr) api.Expr {
	for range times {
		x = less(1, x)
	}
	return x
}

// long is an expression whose text has so many bytes, 4 at least.
func long(size int) api.Expr {
	if size <= 6 {
		return fixed(int(math.Pow10(size - 2)))
	}
	if size <= 18 {
		return from(strings.Repeat("a", size-6))
	}
	size -= len("max(, )")
	return call(api.ExMax, 0, long(size/2), long(size-size/2))
}

// filler is so many instructions that fit everywhere.
func filler(size int) []api.Instr { return slices.Repeat([]api.Instr{op(api.OpMax, 0)}, size) }

// placed is code of so many instructions, with this one at a place.
func placed(in api.Instr, at, size int) []api.Instr {
	l := filler(size)
	l[at] = in
	return l
}

// The chapter's example, and its text.
func TestExample(t *testing.T) {
	x := otherwise(less(1, lowest()), fixed(999))
	want := []api.Instr{op(api.OpLowest, 0), op(api.OpLess, 1), op(api.OpElse, 4), op(api.OpPush, 999)}
	expect(t, x, want...)
	expectText(t, want, "lowest\nless 1\nelse 4\npush 999\n")
	expectRight(t, want, true)
}

// O1: what has no Args.
func TestCompileLeaves(t *testing.T) {
	expect(t, lowest(), op(api.OpLowest, 0))
	expect(t, second(), op(api.OpSecond, 0))
	for _, name := range strings.Fields("a z bob a1 z9 abcdefghijkl a23456789012 lowes iff") {
		expect(t, from(name), api.Instr{Op: api.OpFrom, Name: name})
	}
	for _, n := range []int{0, 1, 99, 12345, most - 1, most} {
		expect(t, fixed(n), op(api.OpPush, n))
	}
}

// O1: what stands behind its arguments' code.
func TestCompileArgumentsFirst(t *testing.T) {
	low, sec, bob := op(api.OpLowest, 0), op(api.OpSecond, 0), named("bob")
	for _, n := range []int{0, 1, 250, 100000} {
		expect(t, less(n, lowest()), low, op(api.OpLess, n))
		expect(t, call(api.ExCut, n, second()), sec, op(api.OpCut, n))
		expect(t, call(api.ExCut, n, less(7, from("bob"))), bob, op(api.OpLess, 7), op(api.OpCut, n))
	}
	expect(t, less(most, fixed(most)), op(api.OpPush, most), op(api.OpLess, most))
	expect(t, call(api.ExMin, 0, lowest(), second()), low, sec, op(api.OpMin, 0))
	expect(t, call(api.ExMax, 0, second(), lowest()), sec, low, op(api.OpMax, 0))
	inner := call(api.ExMin, 0, from("bob"), lowest())
	expect(t, call(api.ExMax, 0, inner, second()), bob, low, op(api.OpMin, 0), sec, op(api.OpMax, 0))
	expect(t, call(api.ExMax, 0, second(), inner), sec, bob, low, op(api.OpMin, 0), op(api.OpMax, 0))
}

// O1: of ExElse the place is the one behind all of it, wherever it stands.
func TestCompileElse(t *testing.T) {
	low, sec, one := op(api.OpLowest, 0), op(api.OpSecond, 0), op(api.OpPush, 1)
	els := func(to int) api.Instr { return op(api.OpElse, to) }
	expect(t, otherwise(lowest(), second()), low, els(3), sec)
	expect(t, otherwise(lowest(), otherwise(second(), fixed(1))), low, els(5), sec, els(5), one)
	expect(t, otherwise(otherwise(lowest(), second()), fixed(1)), low, els(3), sec, els(5), one)
	expect(t, less(3, otherwise(lowest(), second())), low, els(3), sec, op(api.OpLess, 3))
	expect(t, otherwise(lowest(), less(3, second())), low, els(4), sec, op(api.OpLess, 3))
	expect(t, call(api.ExMin, 0, fixed(1), otherwise(lowest(), second())), one, low, els(4), sec, op(api.OpMin, 0))
	expect(t, call(api.ExMin, 0, otherwise(lowest(), second()), otherwise(second(), lowest())), low, els(3), sec, sec, els(6), low, op(api.OpMin, 0))
}

// O1: of ExIf one place is where the third one begins, the other one is behind
// all of it.
func TestCompileIf(t *testing.T) {
	low, sec, one, ab := op(api.OpLowest, 0), op(api.OpSecond, 0), op(api.OpPush, 1), op(api.OpAbove, 0)
	unless := func(to int) api.Instr { return op(api.OpUnless, to) }
	jump := func(to int) api.Instr { return op(api.OpJump, to) }
	for _, n := range []int{0, 1, 999, 1000} {
		expect(t, when(more(n), lowest(), second()), op(api.OpMore, n), unless(4), low, jump(5), sec)
	}
	expect(t, when(above(lowest(), second()), fixed(1), lowest()), low, sec, ab, unless(6), one, jump(7), low)
	three := op(api.OpMore, 3)
	inner := when(more(3), lowest(), second())
	expect(t, when(more(3), inner, fixed(1)), three, unless(8), three, unless(6), low, jump(7), sec, jump(9), one)
	expect(t, when(more(3), fixed(1), inner), three, unless(4), one, jump(9), three, unless(8), low, jump(9), sec)
	expect(t, when(above(inner, fixed(1)), lowest(), second()), three, unless(4), low, jump(5), sec, one, ab, unless(10), low, jump(11), sec)
	expect(t, otherwise(inner, fixed(1)), three, unless(4), low, jump(5), sec, op(api.OpElse, 7), one)
	expect(t, when(more(3), otherwise(lowest(), fixed(1)), less(2, second())), three, unless(6), low, op(api.OpElse, 5), one, jump(8), sec, op(api.OpLess, 2))
}

// O1: ErrArg for all that is not right, and nothing else with it.
func TestCompileOfWrongStrategies(t *testing.T) {
	for _, x := range wrongStrategies() {
		refused(t, x)
		refused(t, otherwise(fixed(1), x))
		refused(t, when(more(0), x, fixed(1)))
		refused(t, call(api.ExMin, 0, x, lowest()))
	}
}

// O1, O4: as deep and as long as may be, and beyond.
func TestDeepAndLong(t *testing.T) {
	for times := range 40 {
		for _, x := range []api.Expr{nested(times, lowest()), nested(times, from("bob"))} {
			if times > 31 {
				refused(t, x)
			} else {
				compare(t, x)
			}
		}
	}
	for size := 1900; size <= 2100; size++ {
		if x := long(size); size > 2000 {
			refused(t, x)
		} else {
			compare(t, x)
		}
	}
	// Of these each one has two more around it.
	inFirst, inLast := lowest(), lowest()
	for range 16 {
		compare(t, inFirst)
		compare(t, inLast)
		inFirst = when(above(inFirst, second()), lowest(), fixed(0))
		inLast = when(more(1), second(), otherwise(lowest(), inLast))
	}
	refused(t, inFirst)
	refused(t, inLast)
	widest := lowest()
	for y := otherwise(widest, widest); tree.Right(y); y = otherwise(y, y) {
		widest = y
		compare(t, widest)
	}
}

// O1, O4: all short strategies; no two of them have the same code.
func TestAllShortStrategies(t *testing.T) {
	texts := map[string]string{}
	for _, x := range shortStrategies() {
		compare(t, x)
		l, _ := Compile(x)
		key, text := fmt.Sprint(l), brief(x)
		if other, ok := texts[key]; ok && other != text {
			t.Errorf("%s and %s have the same code %s", other, text, key)
		}
		texts[key] = text
	}
	if len(texts) < 10000 {
		t.Errorf("only %d strategies", len(texts))
	}
}

// O1, O4: what a short rule makes.
func TestMade(t *testing.T) {
	codes := map[string]string{}
	for _, x := range strategies(20000) {
		compare(t, x)
		l, _ := Compile(x)
		key, text := fmt.Sprint(l), brief(x)
		if other, ok := codes[key]; ok && other != text {
			t.Errorf("%.300s and %.300s have the same code", other, text)
		}
		codes[key] = text
	}
	if len(codes) < 10000 {
		t.Errorf("only %d strategies", len(codes))
	}
}

// O2: how many instructions there may be.
func TestRightByLength(t *testing.T) {
	for _, size := range []int{0, 1, 2, 100, 4999, 5000} {
		expectRight(t, filler(size), true)
	}
	for _, size := range []int{5001, 5002, 10000, 1000000} {
		expectRight(t, filler(size), false)
	}
	expectRight(t, nil, true)
	expectRight(t, []api.Instr{}, true)
	expectRight(t, placed(op(api.OpJump, 5000), 4999, 5000), true)
	expectRight(t, placed(op(api.OpJump, 5000), 0, 5000), true)
	expectRight(t, placed(op(api.OpJump, 5001), 0, 5000), false)
	expectRight(t, placed(op(api.OpJump, 5001), 5000, 5001), false)
}

// O2: which operations there are.
func TestRightByOp(t *testing.T) {
	for kind := -20; kind <= 300; kind++ {
		in := op(kind, 0)
		switch kind {
		case api.OpFrom:
			in.Name = "a"
		case api.OpElse, api.OpUnless, api.OpJump:
			in.N = 1
		}
		expectRight(t, []api.Instr{in}, 1 <= kind && kind <= 13)
	}
	for _, kind := range []int{math.MinInt, math.MaxInt, 1 << 32, 1<<32 + 1, 1<<32 + 7, 1<<8 + 7, 1<<16 + 7, -7} {
		expectRight(t, []api.Instr{op(kind, 0)}, false)
		expectRight(t, placed(op(kind, 0), 2, 3), false)
	}
}

// O2: of each operation which N, at all places of some code.
func TestRightByN(t *testing.T) {
	tops := []int{0, most, 0, 0, 0, most, 100000, 0, 0, 0, 1000, 0, 0, 0}
	numbers := []int{math.MinInt, -most, -5, -1, 999, 1000, 1001, 5000, 99999, 100000, 100001, most - 1, most, most + 1, 1 << 40, 1 << 62, 1 << 32, math.MaxInt}
	for n := range 12 {
		numbers = append(numbers, n)
	}
	for kind := 1; kind <= 13; kind++ {
		for _, n := range numbers {
			for _, size := range []int{1, 2, 3, 7, 10} {
				for at := range size {
					in, want := op(kind, n), 0 <= n && n <= tops[kind]
					if kind == api.OpFrom {
						in.Name = "bob"
					}
					if kind == api.OpElse || kind == api.OpUnless || kind == api.OpJump {
						want = slices.Contains([]int{1, 2, 3, 4, 5, 6, 7, 8, 9, 10}[at:size], n)
					}
					expectRight(t, placed(in, at, size), want)
				}
			}
		}
	}
}

// O2: OpFrom has a name that may be, none of the others has any.
func TestRightByName(t *testing.T) {
	good := strings.Fields("a z bob a1 z9 abcdefghijkl a23456789012 lowes lowests iff elsee ab0ve unless jump push")
	bad := strings.Fields("lowest second from less cut min max else if more above abcdefghijklm 1 7up B Bob bOb bo-b bo_b bo.b b\x00 bäb ä 0.01 ( ? " + strings.Repeat("x", 1000))
	bad = append(bad, "", " ", " bob", "bob ", "bob\n", "b\xff", "\xff")
	for _, name := range good {
		expectRight(t, []api.Instr{named(name)}, true)
		expectRight(t, placed(named(name), 4, 5), true)
		expectRight(t, []api.Instr{{Op: api.OpFrom, N: 1, Name: name}}, false)
		expectRight(t, []api.Instr{{Op: api.OpFrom, N: -1, Name: name}}, false)
	}
	for _, name := range bad {
		expectRight(t, []api.Instr{named(name)}, false)
		expectRight(t, placed(named(name), 4, 5), false)
	}
	for kind := 1; kind <= 13; kind++ {
		for _, name := range append(good, bad...) {
			if kind == api.OpFrom || name == "" {
				continue
			}
			for _, n := range []int{0, 1} {
				expectRight(t, []api.Instr{{Op: kind, N: n, Name: name}}, false)
			}
		}
	}
}

// fits tells whether an instruction may stand at a place, by the chapter's words
// one by one.
func fits(in api.Instr, at, size int) bool {
	switch in.Op {
	case 4:
		first := strings.ContainsAny(in.Name[:min(1, len(in.Name))], "abcdefghijklmnopqrstuvwxyz")
		return in.N == 0 && first && len(in.Name) <= 12 && in.Name != "if"
	case 9, 12, 13:
		return in.Name == "" && in.N > at && in.N <= size
	}
	top, ok := map[int]int{1: most, 2: 0, 3: 0, 5: most, 6: 100000, 7: 0, 8: 0, 10: 1000, 11: 0}[in.Op]
	return ok && in.Name == "" && in.N >= 0 && in.N <= top
}

// O2: what a short rule makes, whatever it would do.
func TestRightOfMadeCode(t *testing.T) {
	rights := 0
	for seed := range 20000 {
		m := &maker{uint32(seed) * 2654435761}
		l := make([]api.Instr, m.below(30))
		want := true
		for at := range l {
			l[at] = m.instr(at, len(l))
			want = want && fits(l[at], at, len(l))
		}
		expectRight(t, l, want)
		if want {
			rights++
		}
	}
	if rights < 5000 || rights > 17000 {
		t.Errorf("%d of 20000 are right", rights)
	}
}

// O3: a line of each operation, whatever else the instruction has.
func TestText(t *testing.T) {
	words := strings.Fields("push lowest second from less cut min max else more above unless jump")
	for i, word := range words {
		for _, n := range []int{0, 1, 7, -5, 1001, 1000000, most, most + 1, math.MaxInt, math.MinInt} {
			for _, name := range []string{"", "bob", "if", "?", "a b", "\n", "\xff\x00", strings.Repeat("x", 100)} {
				want := word
				switch word {
				case "push", "less", "cut", "else", "more", "unless", "jump":
					want += " " + strconv.Itoa(n)
				case "from":
					want += " " + name
				}
				expectText(t, []api.Instr{{Op: i + 1, N: n, Name: name}}, want+"\n")
			}
		}
	}
	for _, kind := range []int{0, -1, 14, 15, 99, 257, 1<<32 + 1, math.MaxInt, math.MinInt} {
		expectText(t, []api.Instr{{Op: kind}}, "?\n")
		expectText(t, []api.Instr{{Op: kind, N: 5, Name: "a"}}, "?\n")
	}
}

// O3: lines stand one behind the other, of as many instructions as there are.
func TestTextOfMany(t *testing.T) {
	expectText(t, nil, "")
	expectText(t, []api.Instr{}, "")
	expectText(t, filler(6000), strings.Repeat("max\n", 6000))
	expectText(t, []api.Instr{op(5, 1), {}, op(13, -2), named(""), op(2, 9), {Op: 99}}, "less 1\n?\njump -2\nfrom \nlowest\n?\n")
	for seed := range 2000 {
		m := &maker{uint32(seed) * 2654435761}
		l := make([]api.Instr, m.below(30))
		want := ""
		for at := range l {
			l[at] = m.instr(at, len(l))
			want += Text(l[at : at+1])
		}
		expectText(t, l, want)
	}
}

// O3: the text of each instruction that is right tells it wholly.
func TestTextsAreUnlike(t *testing.T) {
	texts := map[string]string{}
	for _, x := range shortStrategies() {
		l, _ := Compile(x)
		text := Text(l)
		if other, ok := texts[text]; ok && other != brief(x) {
			t.Errorf("%s and %s have the same text %q", other, brief(x), text)
		}
		texts[text] = brief(x)
	}
}

// R3: what is handed in is not written into, nor is what stands behind it.
func TestArgumentsStay(t *testing.T) {
	for _, x := range strategies(500) {
		text := fmt.Sprint(x)
		l, _ := Compile(x)
		if fmt.Sprint(x) != text {
			t.Errorf("Compile(%s) made %v of it", text, x)
		}
		room := append(slices.Clone(l), op(99, -1), op(7, 0))
		before := slices.Clone(room)
		Right(room[:len(l)])
		Text(room[:len(l)])
		if !slices.Equal(room, before) {
			t.Errorf("%s became %s", few(before), few(room))
		}
	}
}

// R3: an answer may be written into and grown, and no other one is changed.
func TestAnswersAreNew(t *testing.T) {
	for _, x := range strategies(500) {
		text := fmt.Sprint(x)
		a, _ := Compile(x)
		b, _ := Compile(x)
		before := slices.Clone(b)
		for i := range a[:cap(a)] {
			a[:cap(a)][i] = api.Instr{Op: 99, N: -1, Name: "?"}
		}
		if !slices.Equal(b, before) || fmt.Sprint(x) != text {
			t.Errorf("%s became %s", few(before), few(b))
		}
		expect(t, x, before...)
	}
}

// R4: what one call was given is not to be seen in the next one.
func TestCallsKnowNothingOfOneAnother(t *testing.T) {
	for range 3 {
		expect(t, otherwise(lowest(), fixed(5)), op(api.OpLowest, 0), op(api.OpElse, 3), op(api.OpPush, 5))
		refused(t, otherwise(lowest(), fixed(-5)))
		expect(t, second(), op(api.OpSecond, 0))
		expectRight(t, filler(5001), false)
		expectRight(t, filler(3), true)
		expectText(t, []api.Instr{{Op: 99}}, "?\n")
		expectText(t, filler(1), "max\n")
	}
}
