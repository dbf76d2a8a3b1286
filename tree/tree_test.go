package tree

import (
	"fmt"
	"math"
	"math/big"
	"regexp"
	"slices"
	"strings"
	"testing"

	"haggler/api"
	"haggler/lex"
)

// call is an expression of a kind, with its Args.
func call(kind, n int, args ...api.Expr) api.Expr { return api.Expr{Kind: kind, N: n, Args: args} }

func lowest() api.Expr { return call(api.ExLowest, 0) }

func fixed(n int) api.Expr { return call(api.ExFixed, n) }

func from(name string) api.Expr { return api.Expr{Kind: api.ExFrom, Name: name} }

func more(n int) api.Expr { return call(api.ExMore, n) }

// line is a row of the chapter's table: its text has a $ for each of the Args, #
// for N as a number, % for N as an amount, and @ for the Name.
type line struct {
	kind, most int
	text       string
}

// table is the chapter's table.
func table() []line {
	return []line{
		{1, 0, "lowest"}, {2, 0, "second"}, {3, 0, "from(@)"}, {4, 1000000000000, "%"},
		{5, 1000000000000, "less($, %)"}, {6, 100000, "cut($, #)"},
		{7, 0, "min($, $)"}, {8, 0, "max($, $)"}, {9, 0, "else($, $)"}, {10, 0, "if($, $, $)"},
		{11, 1000, "more(#)"}, {12, 0, "above($, $)"},
	}
}

var shaped = regexp.MustCompile(`^[a-z][a-z0-9]{0,11}$`)

// written is N as an amount.
func written(n int) string {
	whole, cents := new(big.Int).DivMod(big.NewInt(int64(n)), big.NewInt(100), new(big.Int))
	return fmt.Sprintf("%s.%02d", whole, cents)
}

// spelled is the text that the table gives an expression, however long it is
// and however deep; none, if it is none of the table.
func spelled(x api.Expr, condition bool) (string, bool) {
	if (x.Kind > 10) != condition {
		return "", false
	}
	for _, r := range table() {
		if r.kind != x.Kind {
			continue
		}
		own := slices.Contains(strings.Fields("lowest second from less cut min max else if more above"), x.Name)
		name := x.Name == "" && r.kind != 3 || r.kind == 3 && !own && shaped.MatchString(x.Name)
		if x.N < 0 || x.N > r.most || !name || strings.Count(r.text, "$") != len(x.Args) {
			return "", false
		}
		s := strings.NewReplacer("@", x.Name, "#", fmt.Sprint(x.N), "%", written(x.N)).Replace(r.text)
		for i, arg := range x.Args {
			of, ok := spelled(arg, r.kind == 10 && i == 0)
			if !ok {
				return "", false
			}
			s = strings.Replace(s, "$", of, 1)
		}
		return s, true
	}
	return "", false
}

// levels are the expressions that stand in one another, told level by level.
func levels(x api.Expr) [][]api.Expr {
	var all [][]api.Expr
	for level := []api.Expr{x}; len(level) > 0; {
		all = append(all, level)
		var next []api.Expr
		for _, y := range level {
			next = append(next, y.Args...)
		}
		level = next
	}
	return all
}

// brief tells of an expression no more than a message needs, for it may be
// endless.
func brief(x api.Expr) string {
	var kinds []int
	for _, arg := range x.Args[:min(len(x.Args), 5)] {
		kinds = append(kinds, arg.Kind)
	}
	return fmt.Sprintf("{%d %d %.40q, %d Args, of kinds %d}", x.Kind, x.N, x.Name, len(x.Args), kinds)
}

// whole writes expressions out, with all that they have; unlike ones unlike.
func whole(l ...api.Expr) string {
	var b strings.Builder
	for _, x := range l {
		fmt.Fprintf(&b, "{%d %d %+q%s}", x.Kind, x.N, x.Name, whole(x.Args...))
	}
	return b.String()
}

// expect holds what Print and Right answer against what they are to answer.
func expect(t *testing.T, x api.Expr, want string) {
	t.Helper()
	got, err := Print(x)
	if got != want || err != api.OK {
		t.Errorf("Print(%s) = %.100q, %d; want %.100q", brief(x), got, err, want)
	}
	if !Right(x) {
		t.Errorf("Right of %.100q = false", want)
	}
}

// refused holds that an expression is not right, and has no text.
func refused(t *testing.T, x api.Expr) {
	t.Helper()
	if got, err := Print(x); got != "" || err != api.ErrArg {
		t.Errorf("Print(%s) = %.100q, %d; want nothing, %d", brief(x), got, err, api.ErrArg)
	}
	if Right(x) {
		t.Errorf("Right(%s) = true", brief(x))
	}
}

// compare holds all that is told of an expression against the table.
func compare(t *testing.T, x api.Expr) {
	t.Helper()
	all := levels(x)
	if got := Deep(x); got != len(all) {
		t.Errorf("Deep(%s) = %d; want %d", brief(x), got, len(all))
	}
	if got := Size(x); got != len(slices.Concat(all...)) {
		t.Errorf("Size(%s) = %d; want %d", brief(x), got, len(slices.Concat(all...)))
	}
	if s, ok := spelled(x, false); ok && len(s) <= 2000 && len(all) <= 32 {
		expect(t, x, s)
	} else {
		refused(t, x)
	}
}

// nested is one expression in so many calls of a kind, each time as that one of
// its Args.
func nested(kind, place, times int, x api.Expr) api.Expr {
	for range times {
		args := slices.Repeat([]api.Expr{fixed(0)}, strings.Count(table()[kind-1].text, "$"))
		if kind == api.ExIf {
			args[0] = more(0)
		}
		args[place] = x
		x = call(kind, 0, args...)
	}
	return x
}

// long is an expression whose text has so many bytes, 4 at least; it is as deep
// as it must be.
func long(size int) api.Expr {
	if size <= 6 {
		return fixed(int(math.Pow10(size - 2)))
	}
	if size <= 18 {
		return from(strings.Repeat("a", size-6))
	}
	size -= len("max(, )")
	return call(api.ExMax, 0, long(size/2), long(size-size/2))
}

// pool are expressions, right ones and others, of one or two levels.
func pool() []api.Expr {
	var leaves, all []api.Expr
	for kind := -1; kind <= 14; kind++ {
		for _, n := range []int{0, 1, 1001} {
			for _, name := range []string{"", "a", "if"} {
				leaves = append(leaves, api.Expr{Kind: kind, N: n, Name: name})
			}
		}
	}
	args := []api.Expr{lowest(), fixed(7), from("bob"), more(1), call(api.ExAbove, 0, lowest(), fixed(9)), call(api.ExAbove, 0, lowest()), fixed(-1), {}}
	lists := [][]api.Expr{}
	for _, a := range args {
		lists = append(lists, []api.Expr{a})
		for _, b := range args {
			lists = append(lists, []api.Expr{a, b})
			for _, c := range args {
				lists = append(lists, []api.Expr{a, b, c})
			}
		}
	}
	for _, x := range leaves {
		all = append(all, x)
		if x.Name == "if" || x.N == 1001 {
			continue
		}
		for _, l := range lists {
			x.Args = l
			all = append(all, x)
		}
	}
	return append(all, call(api.ExMax, 0, lowest(), lowest(), lowest(), lowest()))
}

// maker makes expressions, as a short rule chooses.
type maker struct{ state uint32 }

// below is a number below n, which is at most 2^16.
func (m *maker) below(n int) int {
	m.state = m.state*1664525 + 1013904223
	return int(m.state>>16) * n >> 16
}

// number is a number from 0 to most, its edges more often than others.
func (m *maker) number(most int) int {
	return []int{0, 1, most, most - most/3, m.below(1<<16) % (most + 1), m.below(1<<16) * 15258789 % (most + 1)}[m.below(6)]
}

// expr is an expression that the table has, or a condition of it, with at most
// so many calls in one another.
func (m *maker) expr(deep int, condition bool) api.Expr {
	kinds := []int{1, 2, 3, 4, 5, 6, 7, 8, 9, 10}
	if condition {
		kinds = []int{11, 12}
	}
	if deep == 0 {
		kinds = kinds[:max(1, len(kinds)-6)]
	}
	r := table()[kinds[m.below(len(kinds))]-1]
	x := api.Expr{Kind: r.kind}
	if r.most > 0 {
		x.N = m.number(r.most)
	}
	if r.kind == api.ExFrom {
		x.Name = []string{"a", "bob", "x9", "abcdefghijkl", "iff"}[m.below(5)]
	}
	for i := range strings.Count(r.text, "$") {
		x.Args = append(x.Args, m.expr(deep-1, r.kind == api.ExIf && i == 0))
	}
	return x
}

// spoil changes something of an expression, or of one within it; what it
// changes is its own.
func (m *maker) spoil(x api.Expr) api.Expr {
	x.Args = slices.Clone(x.Args)
	if i := m.below(len(x.Args) + 2); i < len(x.Args) {
		x.Args[i] = m.spoil(x.Args[i])
		return x
	}
	switch m.below(6) {
	case 0:
		x.Kind = m.below(16) - 2
	case 1:
		x.N += []int{-1, 1, 1000, 100000, 1000000000000, math.MinInt}[m.below(6)]
	case 2:
		x.Name = []string{"", "a", "if", "A", "abcdefghijklm", "a b", "\xff", "bob)"}[m.below(8)]
	case 3:
		x.Args = append(x.Args, m.expr(0, false))
	case 4:
		x.Args = append(x.Args, m.expr(0, true))
	case 5:
		x.Args = x.Args[:max(0, len(x.Args)-1)]
	}
	return x
}

// T1, T3: the rows of the table, one by one.
func TestRows(t *testing.T) {
	low, cond := lowest(), call(api.ExAbove, 0, fixed(1), from("bob"))
	for want, x := range map[string]api.Expr{
		"lowest":                      low,
		"second":                      call(api.ExSecond, 0),
		"from(bob)":                   from("bob"),
		"0.05":                        fixed(5),
		"less(lowest, 0.01)":          call(api.ExLess, 1, low),
		"cut(lowest, 250)":            call(api.ExCut, 250, low),
		"min(lowest, 9.99)":           call(api.ExMin, 0, low, fixed(999)),
		"max(9.99, lowest)":           call(api.ExMax, 0, fixed(999), low),
		"else(lowest, second)":        call(api.ExElse, 0, low, call(api.ExSecond, 0)),
		"if(more(3), lowest, second)": call(api.ExIf, 0, more(3), low, call(api.ExSecond, 0)),
		"if(above(0.01, from(bob)), 1.00, lowest)": call(api.ExIf, 0, cond, fixed(100), low),
	} {
		expect(t, x, want)
		compare(t, x)
	}
}

// T2, T3: the example of the chapter.
func TestExample(t *testing.T) {
	x := call(api.ExElse, 0, call(api.ExLess, 1, lowest()), fixed(999))
	expect(t, x, "else(less(lowest, 0.01), 9.99)")
	if Size(x) != 4 || Deep(x) != 3 {
		t.Errorf("Size = %d, Deep = %d; want 4, 3", Size(x), Deep(x))
	}
}

// T1, T3: of each kind, each number at an edge, each name and each number of
// Args, with and without a condition among them.
func TestEachKind(t *testing.T) {
	numbers := []int{math.MinInt, -1000000000001, -1000000000000, -1, 0, 1, 9, 10, 99, 100, 999, 1000, 1001, 99999, 100000, 100001, 999999999999, 1000000000000, 1000000000001, math.MaxInt}
	names := []string{"", "a", "bob7", "abcdefghijkl", "abcdefghijklm", "A", "7up", "if", "lowest", "more", "a ", "a)", "a.b", "caf\u00e9", "\x00", "a\xff", strings.Repeat("a", 2000)}
	low := lowest()
	lists := [][]api.Expr{nil, {}, {low}, {low, low}, {low, low, low}, {low, low, low, low}, {more(1)}, {more(1), low}, {low, more(1)}, {more(1), low, low}, {low, more(1), low}, {low, low, more(1)}, {more(1), more(1), low}, {more(1), low, more(1)}, {more(1), more(1), more(1)}}
	for kind := -2; kind <= 20; kind++ {
		for _, n := range numbers {
			for _, name := range names {
				for _, l := range lists {
					compare(t, api.Expr{Kind: kind, N: n, Name: name, Args: l})
				}
			}
		}
	}
	for _, kind := range []int{math.MinInt, math.MaxInt, 1 << 32, 1<<32 + 1, 256 + 1} {
		refused(t, call(kind, 0))
	}
}

// T1: no condition is right, even one that may stand in an if.
func TestConditions(t *testing.T) {
	for _, x := range []api.Expr{more(0), more(1000), call(api.ExAbove, 0, lowest(), fixed(1))} {
		refused(t, x)
		for place := range 3 {
			args := []api.Expr{more(1), lowest(), lowest()}
			args[place] = x
			compare(t, call(api.ExIf, 0, args...))
			if got := Right(call(api.ExIf, 0, args...)); got != (place == 0) {
				t.Errorf("Right of an if with %s at place %d = %t", brief(x), place, got)
			}
		}
		for _, kind := range []int{api.ExLess, api.ExCut} {
			refused(t, call(kind, 0, x))
		}
		for _, kind := range []int{api.ExMin, api.ExMax, api.ExElse} {
			refused(t, call(kind, 0, x, lowest()))
			refused(t, call(kind, 0, lowest(), x))
		}
		refused(t, call(api.ExIf, 0, call(api.ExAbove, 0, x, lowest()), lowest(), lowest()))
		refused(t, call(api.ExIf, 0, call(api.ExAbove, 0, lowest(), x), lowest(), lowest()))
	}
	refused(t, call(api.ExIf, 0, lowest(), lowest(), lowest()))
	// Such a one is not right itself, so that nothing around it is.
	refused(t, call(api.ExIf, 0, more(1001), lowest(), lowest()))
	refused(t, call(api.ExIf, 0, call(api.ExAbove, 0, lowest()), lowest(), lowest()))
}

// T1, T2: as deep as may be, and deeper, along each of the Args of each call.
func TestDeep(t *testing.T) {
	for _, r := range table() {
		for place := range strings.Count(r.text, "$") {
			if r.kind == api.ExAbove || r.kind == api.ExIf && place == 0 {
				continue
			}
			for times := range 40 {
				x := nested(r.kind, place, times, lowest())
				if got := Deep(x); got != times+1 {
					t.Errorf("Deep of %d in one another = %d", times+1, got)
				}
				if got := Right(x); got != (times <= 31) {
					t.Errorf("Right of %d of kind %d in one another = %t", times+1, r.kind, got)
				}
				compare(t, x)
			}
		}
	}
	// Conditions, and what they have, count as others do.
	for times := range 40 {
		x := nested(api.ExLess, 0, times, lowest())
		above := call(api.ExIf, 0, call(api.ExAbove, 0, fixed(1), x), lowest(), lowest())
		if got := Right(above); got != (times <= 29) || Deep(above) != times+3 {
			t.Errorf("Right of a condition with %d in one another = %t", times+1, got)
		}
		compare(t, above)
		x = nested(api.ExCut, 0, times, call(api.ExIf, 0, more(1), lowest(), lowest()))
		if got := Right(x); got != (times <= 30) {
			t.Errorf("Right of a condition within %d = %t", times+1, got)
		}
		compare(t, x)
	}
}

// T1: how deep one of the Args is makes no other one deeper.
func TestDeepBesideOthers(t *testing.T) {
	x := nested(api.ExLess, 0, 30, lowest())
	for _, y := range []api.Expr{call(api.ExMin, 0, x, x), call(api.ExMax, 0, fixed(1), x), call(api.ExIf, 0, more(1), x, x), nested(api.ExElse, 1, 15, nested(api.ExLess, 0, 16, lowest()))} {
		if Deep(y) != 32 || !Right(y) {
			t.Errorf("Deep = %d, Right = %t of %s", Deep(y), Right(y), brief(y))
		}
		compare(t, y)
	}
	refused(t, call(api.ExMin, 0, lowest(), call(api.ExLess, 1, call(api.ExLess, 1, x))))
}

// T1, T3: as long as may be, and longer, whatever the text ends with.
func TestLong(t *testing.T) {
	for size := 4; size <= 2100; size++ {
		if size == 200 {
			size = 1900
		}
		x := long(size)
		if s, ok := spelled(x, false); !ok || len(s) != size || Deep(x) > 32 {
			t.Fatalf("what was to have %d bytes has %d", size, len(s))
		}
		if Right(x) != (size <= 2000) {
			t.Errorf("Right of %d bytes = %t", size, Right(x))
		}
	}
	for size := 1950; size <= 2000; size++ {
		x := long(size)
		for _, y := range []api.Expr{
			call(api.ExLess, 5, x), call(api.ExLess, 1000000000000, x), call(api.ExCut, 0, x), call(api.ExCut, 100000, x),
			call(api.ExMin, 0, x, lowest()), call(api.ExMax, 0, lowest(), x), call(api.ExElse, 0, x, from("abcdefghijkl")), call(api.ExElse, 0, fixed(1000000000000), x),
			call(api.ExIf, 0, more(1000), x, fixed(1)), call(api.ExIf, 0, more(0), fixed(1), x),
			call(api.ExIf, 0, call(api.ExAbove, 0, x, lowest()), lowest(), lowest()), call(api.ExIf, 0, call(api.ExAbove, 0, lowest(), x), lowest(), lowest()),
		} {
			compare(t, y)
		}
	}
}

// T1, R1: what is deep or long without bound is refused, and soon: were all of
// it gone through, no time would do.
func TestEndless(t *testing.T) {
	within := []api.Expr{{Kind: api.ExLess}}
	within[0].Args = within
	refused(t, within[0])
	for _, kind := range []int{api.ExMin, api.ExMax, api.ExElse, api.ExIf, api.ExAbove} {
		for _, times := range []int{9, 31, 32, 33, 64, 1000} {
			x := fixed(0)
			for range times {
				if kind == api.ExIf {
					x = call(kind, 0, call(api.ExAbove, 0, x, x), x, x)
				} else {
					x = call(kind, 0, x, x)
				}
			}
			refused(t, x)
		}
	}
	refused(t, call(api.ExMin, 0, slices.Repeat([]api.Expr{lowest()}, 1<<20)...))
	refused(t, from(strings.Repeat("a", 1<<20)))
}

// T2: deep ones, and such as no table has.
func TestDeepAndSizeOfAll(t *testing.T) {
	if x := (api.Expr{}); Deep(x) != 1 || Size(x) != 1 || !Same(x, x) {
		t.Errorf("of nothing: Deep = %d, Size = %d, Same = %t", Deep(x), Size(x), Same(x, x))
	}
	if x := call(-5, -5, slices.Repeat([]api.Expr{call(99, 1)}, 3000)...); Deep(x) != 2 || Size(x) != 3001 {
		t.Errorf("of 3000 Args: Deep = %d, Size = %d", Deep(x), Size(x))
	}
	x, y := lowest(), lowest()
	for range 65535 {
		x, y = call(api.ExLess, 1, x), call(api.ExLess, 1, y)
	}
	if Deep(x) != 65536 || Size(x) != 65536 || !Same(x, y) || Same(x, y.Args[0]) || Same(y.Args[0], x) {
		t.Errorf("of 2^16 in one another: Deep = %d, Size = %d, Same = %t", Deep(x), Size(x), Same(x, y))
	}
	refused(t, x)
	for times, x := 0, lowest(); times <= 16; times++ {
		if Deep(x) != times+1 || Size(x) != 1<<(times+1)-1 {
			t.Errorf("of %d times two: Deep = %d, Size = %d", times, Deep(x), Size(x))
		}
		x = call(api.ExMin, 0, x, x)
	}
	// The deepest one may stand at each place.
	for place := range 5 {
		args := slices.Repeat([]api.Expr{call(0, 0, lowest())}, 5)
		args[place] = nested(api.ExCut, 0, 6, lowest())
		if x := call(77, 0, args...); Deep(x) != 8 || Size(x) != 1+4*2+7 {
			t.Errorf("Deep = %d, Size = %d", Deep(x), Size(x))
		}
	}
}

// T2: whatever one has unlike the other, at whatever place.
func TestSame(t *testing.T) {
	inner := []api.Expr{lowest(), call(api.ExSecond, 0), fixed(0), fixed(1), from("a"), from("b"), {}, {Name: "a"}, {N: 1}, call(0, 0, lowest()), call(0, 0, lowest(), lowest()), call(0, 0, fixed(1), lowest())}
	var all []api.Expr
	all = append(all, inner...)
	for _, x := range inner {
		all = append(all, call(api.ExLess, 1, x), call(api.ExCut, 1, x), call(api.ExLess, 2, x))
		for _, y := range inner {
			all = append(all, call(api.ExMin, 0, x, y), call(api.ExMin, 0, call(api.ExLess, 1, x), y))
		}
	}
	for i, a := range all {
		for j, b := range all {
			want := whole(a) == whole(b)
			if got := Same(a, b); got != want || i == j && !got {
				t.Errorf("Same(%s, %s) = %t", brief(a), brief(b), got)
			}
		}
	}
	// A list without elements may be nil or not.
	if a, b := lowest(), (api.Expr{Kind: api.ExLowest, Args: []api.Expr{}}); !Same(a, b) || !Same(b, a) || !Same(call(5, 1, a), call(5, 1, b)) {
		t.Error("Same of lists without elements = false")
	}
	if Same(lowest(), call(api.ExLowest, 0, lowest())) || Same(call(api.ExLowest, 0, lowest()), lowest()) {
		t.Error("Same of one with Args and one without = true")
	}
	if Same(from("a"), from("a\x00")) || Same(from("\xff"), from("\ufffd")) || Same(from("a"), from("A")) {
		t.Error("Same of unlike names = true")
	}
}

// T1 to T3: of all that has one or two levels.
func TestAllOfTwoLevels(t *testing.T) {
	right := 0
	for _, x := range pool() {
		compare(t, x)
		if Right(x) {
			right++
		}
	}
	if right < 50 {
		t.Errorf("only %d of them are right", right)
	}
}

// T1 to T3: what a short rule makes, as it is and spoilt.
func TestMade(t *testing.T) {
	right, wrong := 0, 0
	for seed := range 6000 {
		m := &maker{uint32(seed)}
		x := m.expr(1+seed%7, false)
		y := m.spoil(x)
		compare(t, x)
		compare(t, y)
		if Right(x) {
			right++
		}
		if !Right(y) {
			wrong++
		}
		if !Same(x, x) || Same(x, y) != (whole(x) == whole(y)) {
			t.Errorf("Same(%s, %s) = %t", brief(x), brief(y), Same(x, y))
		}
	}
	if right < 4000 || wrong < 3000 {
		t.Errorf("%d are right, %d are wrong", right, wrong)
	}
}

// rights are right expressions, many of them alike but for one thing.
func rights() []api.Expr {
	var all []api.Expr
	for _, x := range pool() {
		if Right(x) {
			all = append(all, x)
		}
	}
	for seed := range 3000 {
		m := &maker{uint32(seed)}
		x := m.expr(1+seed%4, false)
		for _, y := range []api.Expr{x, m.spoil(x), m.spoil(x), m.spoil(m.spoil(x))} {
			if Right(y) {
				all = append(all, y)
			}
		}
	}
	return all
}

// T4: unlike ones have unlike texts, and the same ones the same.
func TestUnlikeTexts(t *testing.T) {
	of := map[string]api.Expr{}
	for _, x := range rights() {
		s, _ := Print(x)
		if y, ok := of[s]; ok && !Same(x, y) {
			t.Errorf("Print = %.100q of unlike ones, %s and %s", s, brief(x), brief(y))
		}
		of[s] = x
	}
	// As many texts as there are unlike ones.
	unlike := map[string]bool{}
	for _, x := range rights() {
		unlike[whole(x)] = true
	}
	if len(of) != len(unlike) || len(of) < 1500 {
		t.Errorf("%d texts of %d unlike ones", len(of), len(unlike))
	}
}

// T4: texts are tokens, with one blank behind each comma and no other one.
func TestTextsAreTokens(t *testing.T) {
	for _, x := range append(rights(), long(2000), nested(api.ExIf, 1, 31, lowest())) {
		s, _ := Print(x)
		l, err, at := lex.Lex(s)
		var again strings.Builder
		for _, token := range l {
			again.WriteString(token.Text)
			if token.Text == "," {
				again.WriteString(" ")
			}
		}
		if err != api.OK || at != 0 || again.String() != s {
			t.Errorf("Lex(%.100q) = %d, %d; its tokens are %.100q", s, err, at, again.String())
		}
	}
}

// R3: what is handed in is not written into, nor what stands behind its length.
func TestNothingIsWritten(t *testing.T) {
	room := []api.Expr{lowest(), fixed(5), from("spare"), {Kind: 99, N: -7, Name: "spare"}}
	inner := []api.Expr{more(3), call(api.ExMin, 0, room[:2]...), lowest(), {N: 8}}
	x := call(api.ExIf, 0, inner[:3]...)
	wrong := call(api.ExElse, 0, inner[:3]...)
	before := whole(slices.Concat(room, inner, []api.Expr{x, wrong})...)
	for range 2 {
		expect(t, x, "if(more(3), min(lowest, 0.05), lowest)")
		refused(t, wrong)
		if Size(x) != 6 || Deep(x) != 3 || !Same(x, x) || Same(x, wrong) {
			t.Errorf("Size = %d, Deep = %d", Size(x), Deep(x))
		}
	}
	if after := whole(slices.Concat(room, inner, []api.Expr{x, wrong})...); after != before {
		t.Errorf("%s was made of %s", after, before)
	}
}

// R3, R4: a text stays as it was told, whatever is done to what it was told of.
func TestTextStays(t *testing.T) {
	args := []api.Expr{from("bob"), fixed(7)}
	x := call(api.ExMax, 0, args...)
	s, _ := Print(x)
	x.Args[0], x.Args[1] = lowest(), lowest()
	if other, _ := Print(x); s != "max(from(bob), 0.07)" || other != "max(lowest, lowest)" {
		t.Errorf("Print = %q, and then %q", s, other)
	}
}

// P1: any numbers and any bytes, twice the same.
func TestAnyBytes(t *testing.T) {
	for seed := range 4000 {
		m := &maker{uint32(seed) * 7919}
		var wild func(deep int) api.Expr
		wild = func(deep int) api.Expr {
			x := api.Expr{Kind: m.below(16) - 1, N: m.number(1 << 60)}
			for range m.below(4) {
				x.Name += string([]byte{byte(m.below(256))})
			}
			if deep > 0 {
				for range m.below(4) {
					x.Args = append(x.Args, wild(deep-1))
				}
			}
			return x
		}
		x, y := wild(seed%5), wild(seed%5)
		for _, z := range []api.Expr{x, y, call(api.ExMin, 0, x, lowest()), call(api.ExIf, 0, x, y, lowest())} {
			compare(t, z)
			compare(t, z)
		}
		if Same(x, y) != Same(y, x) || Same(x, y) != (whole(x) == whole(y)) {
			t.Errorf("Same(%s, %s) = %t", brief(x), brief(y), Same(x, y))
		}
	}
}
