package parse

import (
	"fmt"
	"slices"
	"strings"
	"testing"

	"haggler/api"
	"haggler/lex"
	"haggler/tree"
)

// line is a row of the chapter's table of trees: its text has an e for each of
// the Args that is an expression, a c for one that is a condition, and an a, p,
// m or n for an amount, a part, a number of offers, or a name.
type line struct {
	kind       int
	word, text string
}

// expressions and conditions are the table's rows, but for that of amounts.
func expressions() []line {
	return []line{{1, "lowest", ""}, {2, "second", ""}, {3, "from", "(n)"}, {5, "less", "(e,a)"}, {6, "cut", "(e,p)"},
		{7, "min", "(e,e)"}, {8, "max", "(e,e)"}, {9, "else", "(e,e)"}, {10, "if", "(c,e,e)"}}
}

func conditions() []line { return []line{{11, "more", "(m)"}, {12, "above", "(e,e)"}} }

// due is what is to stand next: a sign, a piece of a row, or a $ for the end;
// within so many others.
type due struct {
	what   rune
	within int
}

// begun is what a row has behind its word.
func begun(rows []line, word string) (string, bool) {
	for _, r := range rows {
		if r.word == word {
			return r.text, true
		}
	}
	return "", false
}

// stands tells whether a token can stand where something is due, and what is
// due then.
func stands(what rune, t api.Token) (string, bool) {
	switch what {
	case 'e':
		if t.Kind == api.TokMoney {
			return "", true
		}
		return begun(expressions(), t.Text)
	case 'c':
		return begun(conditions(), t.Text)
	case 'a':
		return "", t.Kind == api.TokMoney
	case 'p':
		return "", t.Kind == api.TokCount
	case 'm':
		return "", t.Kind == api.TokCount && t.N <= 1000
	case 'n':
		return "", t.Kind == api.TokWord && !lex.Word(t.Text)
	case '$':
		return "", t.Kind == api.TokEnd
	}
	return "", t.Text == string(what)
}

// reference is the error that Parse is to answer, and its place: told without
// any call in another one, by a list of what is due.
func reference(s string) (api.Errno, int) {
	tokens, err, at := lex.Lex(s)
	if err != api.OK {
		return err, at
	}
	left := []due{{'e', 0}, {'$', 0}}
	for _, t := range tokens {
		d := left[0]
		if (d.what == 'e' || d.what == 'c') && d.within >= 32 {
			return api.ErrDeep, t.At
		}
		text, ok := stands(d.what, t)
		if !ok {
			return api.ErrSyntax, t.At
		}
		var then []due
		for _, what := range text {
			then = append(then, due{what, d.within + 1})
		}
		left = append(then, left[1:]...)
	}
	return api.OK, 0
}

// canonical is the one text of the tokens of a text: a blank behind each comma.
func canonical(s string) string {
	tokens, _, _ := lex.Lex(s)
	var b strings.Builder
	for _, t := range tokens {
		b.WriteString(strings.Replace(t.Text, ",", ", ", 1))
	}
	return b.String()
}

// spelled is the text that the table gives an expression, however long it is;
// it has a ? wherever something is not as the table says.
func spelled(x api.Expr, rows []line) string {
	if x.Kind == api.ExFixed && x.Name == "" && len(x.Args) == 0 && rows[0].kind == 1 {
		return fmt.Sprintf("%d.%02d", x.N/100, x.N%100)
	}
	i := slices.IndexFunc(rows, func(r line) bool { return r.kind == x.Kind })
	if i < 0 {
		return "?"
	}
	s, args, number, name := rows[i].word, x.Args, false, false
	for _, what := range rows[i].text {
		switch what {
		case 'e', 'c':
			if len(args) == 0 {
				return "?"
			}
			s += spelled(args[0], map[rune][]line{'e': expressions(), 'c': conditions()}[what])
			args = args[1:]
		case 'a':
			s, number = s+fmt.Sprintf("%d.%02d", x.N/100, x.N%100), true
		case 'p', 'm':
			s, number = s+fmt.Sprint(x.N), true
		case 'n':
			s, name = s+x.Name, true
		case ',':
			s += ", "
		default:
			s += string(what)
		}
	}
	if len(args) > 0 || x.N != 0 && !number || x.Name != "" && !name {
		return "?"
	}
	return s
}

// whole writes expressions out, with all that they have; unlike ones unlike.
func whole(l ...api.Expr) string {
	var b strings.Builder
	for _, x := range l {
		fmt.Fprintf(&b, "{%d %d %+q%s}", x.Kind, x.N, x.Name, whole(x.Args...))
	}
	return b.String()
}

// refused holds that a text has this error, at a place, and nothing else.
func refused(t *testing.T, s string, want api.Errno, wantAt int) {
	t.Helper()
	x, err, at := Parse(s)
	if err != want || at != wantAt || whole(x) != whole(api.Expr{}) {
		t.Errorf("Parse(%.250q) = %.100s, %d, %d; want nothing, %d, %d", s, whole(x), err, at, want, wantAt)
	}
}

// expect holds that a text is that of an expression.
func expect(t *testing.T, s string, want api.Expr) {
	t.Helper()
	x, err, at := Parse(s)
	if err != api.OK || at != 0 || whole(x) != whole(want) {
		t.Errorf("Parse(%.250q) = %.300s, %d, %d; want %.300s", s, whole(x), err, at, whole(want))
	}
}

// compare holds what Parse answers against the reference, and the expression
// against the text; it tells whether there is one.
func compare(t *testing.T, s string) bool {
	t.Helper()
	err, at := reference(s)
	if err != api.OK {
		refused(t, s, err, at)
		if at > len(s) {
			t.Errorf("Parse(%.250q) has an error at %d", s, at)
		}
		return false
	}
	x, got, gotAt := Parse(s)
	text := canonical(s)
	if got != api.OK || gotAt != 0 || spelled(x, expressions()) != text {
		t.Errorf("Parse(%.250q) = %.300s, %d, %d; want that of %.300q", s, whole(x), got, gotAt, text)
	}
	if tree.Right(x) != (len(text) <= 2000) || tree.Deep(x) > 32 {
		t.Errorf("Parse(%.250q) tells one of %d bytes, and %d deep, that is right: %t", s, len(text), tree.Deep(x), tree.Right(x))
	}
	return true
}

func call(kind, n int, args ...api.Expr) api.Expr { return api.Expr{Kind: kind, N: n, Args: args} }

func lowest() api.Expr { return call(api.ExLowest, 0) }

func fixed(n int) api.Expr { return call(api.ExFixed, n) }

func from(name string) api.Expr { return api.Expr{Kind: api.ExFrom, Name: name} }

// maker makes expressions and texts, as a short rule chooses.
type maker struct{ state uint32 }

// below is a number below n, which is at most 2^16.
func (m *maker) below(n int) int {
	m.state = m.state*1664525 + 1013904223
	return int(m.state>>16) * n >> 16
}

// number is a number from 0 to most, its edges more often than others.
func (m *maker) number(most int) int {
	return []int{0, 1, most, most - most/3, m.below(1<<16) % (most + 1), m.below(1<<16) * 15258789 % (most + 1)}[m.below(6)]
}

// text is one of a piece, with at most so many calls in one another.
func (m *maker) text(what rune, deep int) string {
	rows := expressions()
	switch what {
	case 'c':
		rows = conditions()
	case 'a':
		n := m.number(1000000000000)
		return fmt.Sprintf("%d.%02d", n/100, n%100)
	case 'p':
		return fmt.Sprint(m.number(100000))
	case 'm':
		return fmt.Sprint(m.number(1000))
	case 'n':
		return []string{"a", "bob", "x9", "abcdefghijkl", "iff"}[m.below(5)]
	case '(', ')', ',':
		return string(what)
	}
	if what == 'e' && m.below(6) == 0 {
		return m.text('a', 0)
	}
	if deep == 0 {
		rows = rows[:(len(rows)+1)/3]
	}
	r := rows[m.below(len(rows))]
	s := r.word
	for _, w := range r.text {
		s += m.blanks() + m.text(w, deep-1)
	}
	return s
}

// blanks are some blanks or line feeds, or none.
func (m *maker) blanks() string {
	return []string{"", "", "", "", " ", "\n", "  ", " \n "}[m.below(8)]
}

// strategies are texts of strategies, those of all rows among them.
func strategies() []string {
	l := []string{"lowest", "1.50", "from(bob)", "less(lowest, 0.01)", "cut(second, 250)", "min(lowest, 9.99)", "max(9.99, lowest)", "else(less(lowest, 0.01), 9.99)", "if(more(3), lowest, second)", "if(above(0.01, from(bob)), 1.00, lowest)"}
	for seed := range 3000 {
		m := &maker{uint32(seed)}
		if s := m.blanks() + m.text('e', 1+seed%7) + m.blanks(); len(s) <= 2000 {
			l = append(l, s)
		}
	}
	return l
}

// pieces are one token of each sort, and others of the same kind that stand
// where it can't.
func pieces() []string {
	return []string{"(", ")", ",", "lowest", "second", "from", "less", "cut", "min", "max", "else", "if", "more", "above", "bob", "abcdefghijkl", "0", "1000", "1001", "100000", "0.00", "10000000000.00"}
}

// nested is a text in so many calls, and where it begins; behind each comes
// what the call has behind it.
func nested(ahead, s, behind string, times int) (string, int) {
	return strings.Repeat(ahead, times) + s + strings.Repeat(behind, times), len(ahead) * times
}

// calls are a call's text ahead of one of its expressions, and behind it.
func calls() [][2]string {
	return [][2]string{{"less(", ",0.01)"}, {"cut(", ",5)"}, {"min(", ",lowest)"}, {"min(lowest,", ")"}, {"max(", ",1.00)"}, {"max(1.00,", ")"}, {"else(", ",second)"}, {"else(second,", ")"}, {"if(more(5),", ",lowest)"}, {"if(more(5),lowest,", ")"}}
}

// Y1: each row of the table, with its pieces where they belong.
func TestRows(t *testing.T) {
	low, second := lowest(), call(api.ExSecond, 0)
	for s, x := range map[string]api.Expr{
		"lowest":                         low,
		"second":                         second,
		"from(bob)":                      from("bob"),
		"from(abcdefghijkl)":             from("abcdefghijkl"),
		"0.00":                           fixed(0),
		"12.34":                          fixed(1234),
		"10000000000.00":                 fixed(1000000000000),
		"less(lowest, 0.05)":             call(api.ExLess, 5, low),
		"less(second, 10000000000.00)":   call(api.ExLess, 1000000000000, second),
		"cut(lowest, 0)":                 call(api.ExCut, 0, low),
		"cut(lowest, 100000)":            call(api.ExCut, 100000, low),
		"min(lowest, second)":            call(api.ExMin, 0, low, second),
		"max(second, lowest)":            call(api.ExMax, 0, second, low),
		"else(lowest, 9.99)":             call(api.ExElse, 0, low, fixed(999)),
		"if(more(0), lowest, second)":    call(api.ExIf, 0, call(api.ExMore, 0), low, second),
		"if(more(1000), second, lowest)": call(api.ExIf, 0, call(api.ExMore, 1000), second, low),
		"if(above(0.01, from(bob)), 1.00, lowest)": call(api.ExIf, 0, call(api.ExAbove, 0, fixed(1), from("bob")), fixed(100), low),
		"else(less(lowest, 0.01), 9.99)":           call(api.ExElse, 0, call(api.ExLess, 1, low), fixed(999)),
	} {
		expect(t, s, x)
		compare(t, s)
	}
}

// Y1: blanks and line feeds stand wherever they like, or nowhere.
func TestBlanks(t *testing.T) {
	want := call(api.ExIf, 0, call(api.ExAbove, 0, lowest(), fixed(100)), call(api.ExCut, 7, call(api.ExSecond, 0)), from("bob"))
	for _, s := range []string{
		"if(above(lowest,1.00),cut(second,7),from(bob))",
		"if(above(lowest, 1.00), cut(second, 7), from(bob))",
		"\nif\n(\nabove\n(\nlowest\n,\n1.00\n)\n,\ncut\n(\nsecond\n,\n7\n)\n,\nfrom\n(\nbob\n)\n)\n",
		"  if  (above( lowest ,1.00 ) ,\n\n  cut (second ,7),from( bob))   ",
	} {
		expect(t, s, want)
	}
	expect(t, strings.Repeat(" ", 997)+"lowest"+strings.Repeat("\n", 997), lowest())
}

// Y1: the example of the chapter.
func TestExample(t *testing.T) { refused(t, "less(lowest 0.01)", api.ErrSyntax, 12) }

// Y1: what can't stand where it does, by hand.
func TestSyntaxByHand(t *testing.T) {
	for s, at := range map[string]int{
		"":                              0,
		" \n ":                          3,
		"bob":                           0,
		"  bob":                         2,
		"5":                             0,
		"(":                             0,
		")":                             0,
		",":                             0,
		"(lowest)":                      0,
		"lowest second":                 7,
		"lowest lowest":                 7,
		"1.00 2.00":                     5,
		"1.00()":                        4,
		"lowest()":                      6,
		"lowest)":                       6,
		"lowest,":                       6,
		"lowest 5":                      7,
		"from":                          4,
		"from(":                         5,
		"from()":                        5,
		"from bob":                      5,
		"from(if)":                      5,
		"from(lowest)":                  5,
		"from(7)":                       5,
		"from(7.00)":                    5,
		"from(()":                       5,
		"from(bob":                      8,
		"from(bob, bob)":                8,
		"from(bob))":                    9,
		"less":                          4,
		"less)":                         4,
		"less lowest":                   5,
		"less()":                        5,
		"less(,":                        5,
		"less(bob, 0.01)":               5,
		"less(5, 0.01)":                 5,
		"less(lowest":                   11,
		"less(lowest)":                  11,
		"less(lowest,":                  12,
		"less(lowest,)":                 12,
		"less(lowest, 5)":               13,
		"less(lowest, lowest)":          13,
		"less(lowest, 0.05":             17,
		"less(lowest, 0.05,":            17,
		"less(lowest, 0.05, 0.05)":      17,
		"less(0.01, lowest)":            11,
		"cut(lowest, 0.05)":             12,
		"cut(lowest, bob)":              12,
		"cut(5, lowest)":                4,
		"cut(lowest, 5, 5)":             13,
		"min(lowest)":                   10,
		"min(lowest second)":            11,
		"min(lowest, second, 1.00)":     18,
		"min(lowest, second 1.00)":      19,
		"min(lowest,, second)":          11,
		"max(7, second)":                4,
		"max(second, 7)":                12,
		"else()":                        5,
		"else(lowest, )":                13,
		"more(5)":                       0,
		"above(lowest, second)":         0,
		"if":                            2,
		"if()":                          3,
		"if(lowest, lowest, lowest)":    3,
		"if(1.00, lowest, lowest)":      3,
		"if(bob, lowest, lowest)":       3,
		"if(5, lowest, lowest)":         3,
		"if(if(more(1), 1.00, 2.00),":   3,
		"if(more, lowest, lowest)":      7,
		"if(more 5, lowest, lowest)":    8,
		"if(more(), lowest, lowest)":    8,
		"if(more(1001), 1.00, 1.00)":    8,
		"if(more(100000), 1.00, 1.00)":  8,
		"if(more(1.00), lowest)":        8,
		"if(more(lowest), lowest)":      8,
		"if(more(5, 5), lowest)":        9,
		"if(more(5) lowest, lowest)":    11,
		"if(more(5), more(5), lowest)":  12,
		"if(more(5), lowest, more(5))":  20,
		"if(more(5), lowest)":           18,
		"if(more(5), lowest, 1.00, 1)":  24,
		"if(above, lowest, lowest)":     8,
		"if(above(lowest), 1.00, 1.00)": 15,
		"if(above(more(1), 1.00)":       9,
		"if(above(1.00, above(":         15,
		"if(above(1.00, 1.00, 1.00)":    19,
		"min(more(1), lowest)":          4,
		"min(lowest, above(lowest,":     12,
	} {
		refused(t, s, api.ErrSyntax, at)
		compare(t, s)
	}
}

// Y1: Lex's error is told, even where a token ahead of it can't stand, or is
// too deep.
func TestErrorsOfLex(t *testing.T) {
	for s, at := range map[string]int{
		"@":                                     0,
		"lowest @":                              7,
		"bob @":                                 4,
		") ) ) 1.5":                             6,
		"lowest second 007":                     14,
		"Lowest":                                0,
		"cut(lowest, 100001)":                   12,
		"less(lowest, -1)":                      13,
		"less(lowest, 10000000000.01)":          13,
		"from(abcdefghijklm)":                   5,
		"more(1001) \t":                         11,
		strings.Repeat("less(", 40) + "lowest;": 206,
	} {
		refused(t, s, api.ErrToken, at)
	}
	for _, s := range []string{strings.Repeat(" ", 2001), strings.Repeat("less(", 401), "bob" + strings.Repeat(" ", 1998), "lowest" + strings.Repeat("\n", 1995), "@" + strings.Repeat(")", 2000), strings.Repeat("less(", 1<<16)} {
		refused(t, s, api.ErrLong, 2000)
	}
	refused(t, strings.Repeat(")", 2000), api.ErrSyntax, 0)
	refused(t, "less("+strings.Repeat(" ", 1995), api.ErrSyntax, 2000)
	expect(t, "lowest"+strings.Repeat("\n", 1994), lowest())
}

// Y1: as deep as may be, and deeper, along each expression of each call. What
// is too deep is the first expression or condition of the 32nd call.
func TestDeep(t *testing.T) {
	for _, c := range calls() {
		for times := range 40 {
			s, _ := nested(c[0], "lowest", c[1], times)
			if x, err, at := Parse(s); times < 32 && (err != api.OK || at != 0 || tree.Deep(x) != times+1) {
				t.Errorf("Parse of %d in one another = %d, %d, %d deep", times+1, err, at, tree.Deep(x))
			}
			if times >= 32 {
				refused(t, s, api.ErrDeep, 31*len(c[0])+strings.Index(c[0], "(")+1)
			}
			compare(t, s)
			compare(t, strings.ReplaceAll(s, ",", " ,\n"))
		}
	}
}

// Y1: where none may begin any more ErrDeep is told of whatever stands there,
// the end too; of what stands elsewhere it is ErrSyntax.
func TestDeepAheadOfSyntax(t *testing.T) {
	for _, s := range append(pieces(), "") {
		ahead, at := nested("less(", "", "", 32)
		refused(t, ahead+s, api.ErrDeep, at)
		refused(t, ahead+"\n"+s, api.ErrDeep, at+1)
		for _, c := range []string{"cut(", "min(", "max(", "else(", "if("} {
			ahead, at := nested("less(", c, "", 31)
			refused(t, ahead+s, api.ErrDeep, at+len(c))
		}
		ahead, at = nested("less(", "if(above(", "", 30)
		refused(t, ahead+s, api.ErrDeep, at+9)
		for _, c := range []string{"", "less", "if", "from", "from(", "1.00,", "lowest,", "from(bob),", "min", "bob"} {
			ahead, _ := nested("less(", c, "", 31)
			compare(t, ahead+" "+s)
		}
	}
	for s, at := range map[string]int{"": 155, ")": 155, "bob": 155, "more(": 155, "less": 159, "less)": 159, "from()": 160, "if)": 157, "lowest)": 161, "1.00,1": 160} {
		ahead, _ := nested("less(", s, "", 31)
		refused(t, ahead, api.ErrSyntax, at)
	}
}

// Y1: a condition, and what it has, stand within the call around it.
func TestDeepConditions(t *testing.T) {
	for times := range 36 {
		more, at := nested("cut(", "if(more(1),lowest,lowest)", ",0)", times)
		if got := compare(t, more); got != (times <= 30) {
			t.Errorf("Parse of a condition within %d others: %t", times+1, got)
		}
		if times == 31 {
			refused(t, more, api.ErrDeep, at+3)
		}
		above, at := nested("cut(", "if(above(1.00,lowest),lowest,lowest)", ",0)", times)
		if got := compare(t, above); got != (times <= 29) {
			t.Errorf("Parse of a condition with expressions within %d others: %t", times+2, got)
		}
		if times == 30 {
			refused(t, above, api.ErrDeep, at+9)
		}
		for _, c := range [][2]string{{"if(above(", ",1.00),lowest,lowest)"}, {"if(above(1.00,", "),lowest,lowest)"}} {
			s, _ := nested(c[0], "lowest", c[1], times)
			if got := compare(t, s); got != (times <= 15) {
				t.Errorf("Parse of %d conditions in one another: %t", times, got)
			}
		}
	}
	s, at := nested("if(above(", "lowest", ",1.00),lowest,lowest)", 16)
	refused(t, s, api.ErrDeep, at)
}

// Y1: how deep one is makes no other one behind it deeper.
func TestDeepBesideOthers(t *testing.T) {
	deep, _ := nested("less(", "lowest", ",0.01)", 30)
	for _, s := range []string{"min(" + deep + "," + deep + ")", "max(from(bob)," + deep + ")", "else(" + deep + ",second)", "if(more(1)," + deep + "," + deep + ")"} {
		if x, err, at := Parse(s); err != api.OK || tree.Deep(x) != 32 {
			t.Errorf("Parse(%q) = %d, %d, %d deep", s, err, at, tree.Deep(x))
		}
		compare(t, s)
	}
	second := "if(above(" + strings.Repeat("cut(", 29) + "lowest" + strings.Repeat(",1)", 29) + ",second)," + deep + "," + deep + ")"
	if !compare(t, second) {
		t.Errorf("Parse(%q) has an error", second)
	}
	refused(t, "min("+deep+",less("+deep+",0.01))", api.ErrDeep, 4+len(deep)+1+5+150)
}

// Y1: all short rows of tokens.
func TestAllShortRows(t *testing.T) {
	rows := []string{""}
	for range 6 {
		var next []string
		for _, s := range rows {
			for _, one := range pieces() {
				next = append(next, s+" "+one)
			}
		}
		for _, s := range next {
			compare(t, s)
		}
		// What is refused ahead of its end is refused whatever follows.
		rows = slices.DeleteFunc(next, func(s string) bool {
			err, at := reference(s)
			return err != api.OK && at < len(s)
		})
	}
}

// Y1: each token of a strategy taken away, doubled, or put in another one's
// place, and the strategy cut off ahead of it.
func TestEachTokenChanged(t *testing.T) {
	for _, s := range strategies()[:400] {
		if len(s) > 200 {
			continue
		}
		l, _, _ := lex.Lex(s)
		for _, token := range l {
			ahead, behind := s[:token.At], s[token.At+len(token.Text):]
			compare(t, ahead)
			compare(t, ahead+behind)
			compare(t, ahead+token.Text+" "+token.Text+behind)
			for _, one := range pieces() {
				compare(t, ahead+" "+one+" "+behind)
				compare(t, ahead+" "+one+" "+s[token.At:])
			}
		}
	}
}

// Y1: what a short rule makes.
func TestMade(t *testing.T) {
	for _, s := range strategies() {
		if !compare(t, s) {
			t.Errorf("Parse(%q) has an error", s)
		}
	}
	for seed := range 5000 {
		m := &maker{uint32(seed)}
		s := ""
		for range m.below(30) {
			s += m.blanks() + pieces()[m.below(len(pieces()))] + " "
		}
		compare(t, s)
	}
}

// Y2: Parse undoes Print, and Print undoes Parse but for blanks.
func TestParseUndoesPrint(t *testing.T) {
	for _, s := range strategies() {
		x, _, _ := Parse(s)
		text, err := tree.Print(x)
		if len(canonical(s)) > 2000 {
			continue
		}
		y, errAgain, at := Parse(text)
		if err != api.OK || errAgain != api.OK || at != 0 || !tree.Same(x, y) || whole(x) != whole(y) || text != canonical(s) {
			t.Errorf("Parse(%.250q) = %.300s; its text %.250q is that of %.300s", s, whole(x), text, whole(y))
		}
	}
}

// Y2: of expressions that are made as such.
func TestParseUndoesPrintOfTrees(t *testing.T) {
	level := []api.Expr{lowest(), call(api.ExSecond, 0), fixed(0), fixed(99), fixed(1000000000000), from("a"), from("iff")}
	for range 2 {
		var next []api.Expr
		for i, x := range level {
			y := level[(i*7+3)%len(level)]
			for _, n := range []int{0, 5, 100000} {
				next = append(next, call(api.ExLess, n, x), call(api.ExCut, n, y))
			}
			next = append(next, call(api.ExMin, 0, x, y), call(api.ExMax, 0, y, x), call(api.ExElse, 0, x, x), call(api.ExIf, 0, call(api.ExMore, i%1001), x, y), call(api.ExIf, 0, call(api.ExAbove, 0, x, y), y, x))
		}
		level = append(level, next...)
	}
	for _, x := range level {
		s, err := tree.Print(x)
		if err != api.OK {
			t.Fatalf("Print(%.300s) = %d", whole(x), err)
		}
		expect(t, s, x)
	}
}

// filled is a text without blanks; that which Print has of it has so many
// bytes, 4 at least.
func filled(size int) string {
	if size <= 6 {
		return strings.Repeat("1", size-3) + ".00"
	}
	if size <= 18 {
		return "from(" + strings.Repeat("a", size-6) + ")"
	}
	size -= len("max(, )")
	return "max(" + filled(size/2) + "," + filled(size-size/2) + ")"
}

// Y2: what is short enough only without blanks is told, and is not right.
func TestTextTooLong(t *testing.T) {
	told, wrong := 0, 0
	for size := 1900; size <= 2300; size++ {
		s := filled(size)
		x, err, at := Parse(s)
		compare(t, s)
		if len(s) > 2000 {
			refused(t, s, api.ErrLong, 2000)
			continue
		}
		told++
		if err != api.OK || at != 0 || tree.Right(x) != (size <= 2000) {
			t.Errorf("Parse of one whose text has %d bytes = %d, %d; right: %t", size, err, at, tree.Right(x))
		}
		if text, err := tree.Print(x); size > 2000 {
			wrong++
			if text != "" || err != api.ErrArg {
				t.Errorf("Print of %d bytes = %.100q, %d", size, text, err)
			}
		}
	}
	if told < 150 || wrong < 50 {
		t.Errorf("only %d were told, %d of them wrong", told, wrong)
	}
}

// lists are all lists of an expression and of those within it.
func lists(x *api.Expr) []*[]api.Expr {
	l := []*[]api.Expr{&x.Args}
	for i := range x.Args {
		l = append(l, lists(&x.Args[i])...)
	}
	return l
}

// R3: lists that come out, and their spare room, are shared with no others.
func TestParseAnswersNewMemory(t *testing.T) {
	s := "if(above(min(lowest, 1.00), second), if(more(5), max(0.01, 0.02), from(bob)), else(cut(lowest, 5), less(second, 0.05)))"
	first, _, _ := Parse(s)
	second, _, _ := Parse(s)
	before := whole(first)
	all := append(lists(&first), lists(&second)...)
	for i, l := range all {
		room := (*l)[len(*l):cap(*l)]
		for j := range room {
			room[j] = api.Expr{Kind: 100, N: i}
		}
	}
	for i, l := range all {
		for _, x := range (*l)[len(*l):cap(*l)] {
			if x.N != i {
				t.Errorf("list %d has the spare room of list %d", i, x.N)
			}
		}
	}
	if whole(first) != before || whole(second) != before {
		t.Errorf("writes into spare room made %s and %s of %s", whole(first), whole(second), before)
	}
	for _, l := range lists(&first) {
		for j := range *l {
			(*l)[j] = api.Expr{Kind: 99}
		}
	}
	third, _, _ := Parse(s)
	if whole(second) != before || whole(third) != before {
		t.Errorf("writes into one answer made %s and %s of %s", whole(second), whole(third), before)
	}
}

// P1: whatever bytes: it ends, and tells the same for the same.
func TestAnyBytes(t *testing.T) {
	good := strategies()
	for seed := range 4000 {
		m := &maker{uint32(seed) * 7919}
		b := []byte(good[seed%len(good)])
		for range 1 + m.below(3) {
			at := m.below(len(b) + 1)
			b = slices.Concat(b[:at], []byte{byte(m.below(256))}, b[min(len(b), at+m.below(3)):])
		}
		if seed%4 == 0 {
			for i := range b {
				b[i] = byte(m.below(256))
			}
		}
		s := string(b)
		compare(t, s)
		x, err, at := Parse(s)
		y, errAgain, atAgain := Parse(s)
		if err != errAgain || at != atAgain || whole(x) != whole(y) {
			t.Errorf("Parse(%q) = %s, %d, %d, then %s, %d, %d", s, whole(x), err, at, whole(y), errAgain, atAgain)
		}
	}
}
