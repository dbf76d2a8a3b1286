package lex

import (
	"math/big"
	"regexp"
	"slices"
	"strings"
	"testing"

	"haggler/api"
)

// own are the language's words, as the chapter lists them.
func own() []string {
	return strings.Fields("lowest second from less cut min max else if more above")
}

// The shapes of words, of numbers and of amounts, and of what belongs together.
var (
	named   = regexp.MustCompile(`^[a-z][a-z0-9]{0,11}$`)
	counted = regexp.MustCompile(`^(?:0|[1-9][0-9]*)$`)
	paid    = regexp.MustCompile(`^(?:0|[1-9][0-9]*)\.[0-9][0-9]$`)
	pieces  = regexp.MustCompile(`[a-z0-9.]+|(?s:.)`)
)

// upTo is the number of these digits, if it is at most so many.
func upTo(digits string, most int64) (int, bool) {
	n, _ := new(big.Int).SetString(digits, 10)
	if n.Cmp(big.NewInt(most)) > 0 {
		return 0, false
	}
	return int(n.Int64()), true
}

// shaped is the token that a piece is, told by shapes and math/big.
func shaped(s string) (api.Token, bool) {
	t := api.Token{Text: s}
	var ok bool
	switch {
	case strings.Contains("(),", s):
		t.Kind, ok = api.TokSign, true
	case named.MatchString(s):
		t.Kind, ok = api.TokWord, true
	case counted.MatchString(s):
		t.Kind = api.TokCount
		t.N, ok = upTo(s, 100000)
	case paid.MatchString(s):
		t.Kind = api.TokMoney
		t.N, ok = upTo(strings.Replace(s, ".", "", 1), 1000000000000)
	}
	return t, ok
}

// reference is what Lex is to answer.
func reference(s string) ([]api.Token, api.Errno, int) {
	if len(s) > 2000 {
		return nil, api.ErrLong, 2000
	}
	var l []api.Token
	for _, place := range pieces.FindAllStringIndex(s, -1) {
		text := s[place[0]:place[1]]
		if text == " " || text == "\n" {
			continue
		}
		t, ok := shaped(text)
		if !ok {
			return nil, api.ErrToken, place[0]
		}
		t.At = place[0]
		l = append(l, t)
	}
	return append(l, api.Token{Kind: api.TokEnd, At: len(s)}), api.OK, 0
}

// expect holds what Lex answers against what it is to answer.
func expect(t *testing.T, s string, want []api.Token, wantErr api.Errno, wantAt int) {
	t.Helper()
	got, err, at := Lex(s)
	if err != wantErr || at != wantAt || !slices.Equal(got, want) {
		t.Errorf("Lex(%.60q) = %.300v, %d, %d; want %.300v, %d, %d", s, got, err, at, want, wantErr, wantAt)
	}
}

// compare holds what Lex answers against the reference.
func compare(t *testing.T, s string) {
	t.Helper()
	want, err, at := reference(s)
	expect(t, s, want, err, at)
}

// refused holds that a text is refused at a place.
func refused(t *testing.T, s string, at int) {
	t.Helper()
	expect(t, s, nil, api.ErrToken, at)
}

// single holds that a text is one token, which begins it and is all of it.
func single(t *testing.T, s string, kind, n int) {
	t.Helper()
	expect(t, s, []api.Token{{Kind: kind, Text: s, N: n}, {Kind: api.TokEnd, At: len(s)}}, api.OK, 0)
}

// spellings are all texts of at most so many of these bytes.
func spellings(bytes string, longest int) []string {
	all := []string{""}
	last := all
	for range longest {
		var next []string
		for _, s := range last {
			for i := range len(bytes) {
				next = append(next, s+bytes[i:i+1])
			}
		}
		all = append(all, next...)
		last = next
	}
	return all
}

// alone is a text of one byte.
func alone(b int) string { return string([]byte{byte(b)}) }

// L1
func TestWord(t *testing.T) {
	for _, s := range own() {
		if !Word(s) {
			t.Errorf("Word(%q) = false", s)
		}
	}
	for _, s := range []string{
		"", "a", "bob", "low", "high", "highest", "third", "to", "then", "not", "and", "or", "fixed", "below", "unless", "jump", "push",
		"LESS", "Less", "lesS", "\u2113ess", "iff", "i", "f", "minmax", "min max", "less(", "0", "7", "1.00", "(", ")", ",",
		strings.Join(own(), ""), strings.Join(own(), " "), strings.Repeat("if", 1000),
	} {
		if Word(s) {
			t.Errorf("Word(%q) = true", s)
		}
	}
}

// L1: a word with one byte less, more or changed is none.
func TestWordWithOneByteUnlike(t *testing.T) {
	unlike := func(s string) {
		if Word(s) != slices.Contains(own(), s) {
			t.Errorf("Word(%q) = %t", s, Word(s))
		}
	}
	for _, s := range own() {
		for at := range len(s) + 1 {
			unlike(s[:at])
			unlike(s[at:])
			for b := range 256 {
				unlike(s[:at] + alone(b) + s[at:])
				if at < len(s) {
					unlike(s[:at] + alone(b) + s[at+1:])
				}
			}
		}
	}
}

// L1
func TestName(t *testing.T) {
	for _, s := range []string{
		"a", "z", "bob", "bob7", "a0", "z9", "a1b2c3", "mug", "x00", "abcdefghijkl", "zzzzzzzzzzzz", "a00000000000", "z99999999999",
		"iff", "ifs", "lowests", "lowes", "xmin", "if0", "else1", "minmax", "fromfromfrom", "lowestsecond", "above0000000",
	} {
		if !Name(s) {
			t.Errorf("Name(%q) = false", s)
		}
	}
	for _, s := range []string{
		"", " ", "0", "9", "7up", "0a", "abcdefghijklm", "lowestsecond1", "a000000000000", strings.Repeat("a", 2000),
		"A", "Bob", "boB", "a.b", "a.", ".a", ".", "a b", " a", "a ", "a\n", "\na", "a_b", "a-b", "-a", "a(", "(a", ")", ",", "a,b",
		"\x00", "a\x00", "\xff", "a\xff", "caf\u00e9", "\u00e9", "\u03b1", "a\u0661", "\u0661", "a\uff11", "\uff41",
	} {
		if Name(s) {
			t.Errorf("Name(%q) = true", s)
		}
	}
	for _, s := range own() {
		if Name(s) {
			t.Errorf("Name(%q) = true", s)
		}
	}
}

// L1: each number of bytes, and each byte at each of their places.
func TestNameByLengthsAndBytes(t *testing.T) {
	for size := range 300 {
		if got := Name(strings.Repeat("a", size)); got != (1 <= size && size <= 12) {
			t.Errorf("Name of %d bytes = %t", size, got)
		}
	}
	for size := 1; size <= 13; size++ {
		for at := range size {
			for b := range 256 {
				s := strings.Repeat("q", at) + alone(b) + strings.Repeat("q", size-at-1)
				want := size <= 12 && (b >= 'a' && b <= 'z' || at > 0 && b >= '0' && b <= '9')
				if got := Name(s); got != want {
					t.Errorf("Name(%q) = %t", s, got)
				}
			}
		}
	}
}

// L1
func TestNameOfAllShortTexts(t *testing.T) {
	for _, s := range spellings("aifmnxz09.A (\x00\xff", 4) {
		if got := Name(s); got != (named.MatchString(s) && !slices.Contains(own(), s)) {
			t.Errorf("Name(%q) = %t", s, got)
		}
	}
}

// L2: the example of the chapter.
func TestExample(t *testing.T) {
	expect(t, "less(lowest, 0.01)", []api.Token{
		{Kind: api.TokWord, Text: "less"},
		{Kind: api.TokSign, Text: "(", At: 4},
		{Kind: api.TokWord, Text: "lowest", At: 5},
		{Kind: api.TokSign, Text: ",", At: 11},
		{Kind: api.TokMoney, Text: "0.01", N: 1, At: 13},
		{Kind: api.TokSign, Text: ")", At: 17},
		{Kind: api.TokEnd, At: 18},
	}, api.OK, 0)
}

// L2: nothing need stand between a sign and what is none, and tokens need make
// no strategy.
func TestLexByHand(t *testing.T) {
	expect(t, "", []api.Token{{Kind: api.TokEnd}}, api.OK, 0)
	expect(t, " \n\n ", []api.Token{{Kind: api.TokEnd, At: 4}}, api.OK, 0)
	expect(t, "\nbob7 \n 12", []api.Token{
		{Kind: api.TokWord, Text: "bob7", At: 1},
		{Kind: api.TokCount, Text: "12", N: 12, At: 8},
		{Kind: api.TokEnd, At: 10},
	}, api.OK, 0)
	expect(t, "),from(( 7.25,if\n", []api.Token{
		{Kind: api.TokSign, Text: ")"},
		{Kind: api.TokSign, Text: ",", At: 1},
		{Kind: api.TokWord, Text: "from", At: 2},
		{Kind: api.TokSign, Text: "(", At: 6},
		{Kind: api.TokSign, Text: "(", At: 7},
		{Kind: api.TokMoney, Text: "7.25", N: 725, At: 9},
		{Kind: api.TokSign, Text: ",", At: 13},
		{Kind: api.TokWord, Text: "if", At: 14},
		{Kind: api.TokEnd, At: 17},
	}, api.OK, 0)
}

// L2
func TestWordsAndNames(t *testing.T) {
	for _, s := range append(own(), "a", "z", "bob7", "iff", "lowests", "x00", "abcdefghijkl", "e5", "a00000000000") {
		single(t, s, api.TokWord, 0)
	}
	for _, s := range []string{"abcdefghijklm", "lowestsecond1", "7up", "0a", "1e5", "0x1", "a.b", "a.", ".a", "if.", "less.0.01", "1.00a", "a1.00", strings.Repeat("a", 13), strings.Repeat("a", 2000)} {
		refused(t, s, 0)
	}
}

// L2
func TestCounts(t *testing.T) {
	for s, n := range map[string]int{"0": 0, "1": 1, "9": 9, "10": 10, "250": 250, "1000": 1000, "1001": 1001, "99999": 99999, "100000": 100000} {
		single(t, s, api.TokCount, n)
	}
	for _, s := range []string{
		"100001", "100010", "999999", "1000000", "1000000000000", "9223372036854775808", "18446744073709551616", "18446744073709551623",
		"00", "01", "007", "0100000", strings.Repeat("0", 2000), strings.Repeat("9", 2000),
	} {
		refused(t, s, 0)
	}
}

// L2
func TestAmounts(t *testing.T) {
	for s, n := range map[string]int{"0.00": 0, "0.01": 1, "0.10": 10, "4.99": 499, "10.00": 1000, "1000.01": 100001, "9999999999.99": 999999999999, "10000000000.00": 1000000000000} {
		single(t, s, api.TokMoney, n)
	}
	for _, s := range []string{
		"10000000000.01", "10000000001.00", "99999999999.99", "92233720368547758.08", "184467440737095516.16", strings.Repeat("9", 1997) + ".99",
		".", "..", "1.", "1.0", "1.5", "1.000", ".5", ".05", ".00", "00.00", "01.00", "00.05", "1..00", "1.00.", ".1.00", "1.2.34", "1.00.00", strings.Repeat(".", 2000),
	} {
		refused(t, s, 0)
	}
}

// L2: each byte by itself, and behind, ahead of and between others.
func TestEachByte(t *testing.T) {
	for b := range 256 {
		s := alone(b)
		known := strings.Contains("(), \n.", s) || '0' <= b && b <= '9' || 'a' <= b && b <= 'z'
		if _, err, at := Lex("bob " + s + ",7"); !known && (err != api.ErrToken || at != 4) {
			t.Errorf("Lex of the byte %#x = %d, %d", b, err, at)
		}
		for _, ahead := range []string{"", "a", "1", "1.0", "(", " ", "\n"} {
			for _, behind := range []string{"", "b", "0", ".00", ")", " ", "\n"} {
				compare(t, ahead+s+behind)
			}
		}
	}
}

// L2: of several that are none the first one is told, by the place of its
// first byte, whatever stands ahead.
func TestFirstError(t *testing.T) {
	for s, at := range map[string]int{
		"a\tb\tc":              1,
		"a.b\t":                0,
		"\ta.b":                0,
		"less(lowest 01) A":    12,
		"less(lowest, -0.01)":  13,
		"lowest\r\n":           6,
		"\n\n100001":           2,
		"1 2 3 4.5 6 7.8":      6,
		"bob,abcdefghijklm,ok": 4,
		"caf\u00e9":            3,
		"\u00a0lowest":         0,
		"\ufefflowest":         0,
		"( \xe2\x82\xac":       2,
		"lowest;":              6,
		"lowest//7":            6,
		"a'b":                  1,
		"from(Bob)":            5,
		"more+1":               4,
	} {
		refused(t, s, at)
	}
}

// L2
func TestLimit(t *testing.T) {
	for _, one := range []string{" ", "\n", "(", "a", "A", "\x00", "0", ".", "\xff", "\u20ac"} {
		for _, times := range []int{2001, 2002, 4000, 70000} {
			expect(t, strings.Repeat(one, times), nil, api.ErrLong, 2000)
		}
	}
	// By bytes, not by runes, and ahead of what is no token.
	expect(t, strings.Repeat("\u20ac", 667), nil, api.ErrLong, 2000)
	expect(t, "A"+strings.Repeat(" ", 2000), nil, api.ErrLong, 2000)
	expect(t, strings.Repeat(" ", 2000)+"A", nil, api.ErrLong, 2000)
	expect(t, "lowest"+strings.Repeat(" ", 1995), nil, api.ErrLong, 2000)
	// As long as it may be.
	expect(t, strings.Repeat(" ", 2000), []api.Token{{Kind: api.TokEnd, At: 2000}}, api.OK, 0)
	expect(t, strings.Repeat("\n", 1994)+"lowest", []api.Token{{Kind: api.TokWord, Text: "lowest", At: 1994}, {Kind: api.TokEnd, At: 2000}}, api.OK, 0)
	refused(t, strings.Repeat(" ", 1999)+"A", 1999)
	refused(t, "A"+strings.Repeat(" ", 1999), 0)
	if l, err, at := Lex(strings.Repeat("(", 2000)); len(l) != 2001 || err != api.OK || at != 0 {
		t.Errorf("Lex of 2000 signs = %d, %d, %d", len(l), err, at)
	}
	compare(t, strings.Repeat("a ", 1000))
	compare(t, strings.Repeat("(0.01),\n", 250))
}

// L2: of all short texts.
func TestAllShortTexts(t *testing.T) {
	for _, s := range spellings("a01.( \nA", 6) {
		compare(t, s)
	}
	for _, s := range spellings("if2,)\t-\xc3\xa9", 5) {
		compare(t, s)
	}
}

// made is a text of so many of these parts, as a short rule chooses them.
func made(parts []string, count, seed int) string {
	state := uint32(seed)
	var b strings.Builder
	for range count {
		state = state*1664525 + 1013904223
		b.WriteString(parts[int(state>>16)%len(parts)])
	}
	return b.String()
}

// L2: longer texts, of tokens and of some that are none.
func TestMadeTexts(t *testing.T) {
	good := append(own(), "bob", "x9", " ", " ", " ", "\n", "(", ")", ",", ",", "7", "100000", "0.01", "10000000000.00")
	mixed := append(slices.Clone(good), "100001", "01", "1.5", ".", "A", "\t", "-", "\u00e9", "\x00", "abcdefghijklm")
	for seed := range 5000 {
		compare(t, made(good, seed%40, seed))
		compare(t, made(mixed, seed%12, seed))
	}
	for seed := range 200 {
		compare(t, made(append(good[11:], "\n"), 700, seed))
	}
}

// L2: what comes out is new memory, its spare room too, and twice the same.
func TestLexAnswersNewMemory(t *testing.T) {
	s := "if(more(5), from(bob7), 0.99)"
	want, _, _ := reference(s)
	first, _, _ := Lex(s)
	second, _, _ := Lex(s)
	for i := range first {
		first[i] = api.Token{Kind: 9, Text: "x", N: 9, At: 9}
	}
	first = append(first, first...)
	if len(first) != 2*len(want) || !slices.Equal(second, want) {
		t.Errorf("writes into what Lex told made %v of what it told then", second)
	}
	expect(t, s, want, api.OK, 0)
}

// strategies are texts of tokens.
func strategies() []string {
	l := []string{
		"", " ", "lowest", "less(lowest, 0.01)", "else(less(lowest,0.01),9.99)", "if(more(5),from(bob7),cut(second,250))",
		"if (above (min(lowest, 1.00)\n, max(second ,0.00) )\n, lowest\n,10000000000.00)", "((,,))", "0 0 0.00 100000", "abcdefghijkl if",
		// As many tokens as still have room for a blank behind each.
		strings.Repeat("(", 1000), strings.Repeat("a,", 500),
	}
	good := append(own(), "bob", "x9", " ", "\n", "(", ")", ",", "7", "100000", "0.01")
	for seed := range 2000 {
		s := made(good, seed%30, seed)
		if _, err, _ := reference(s); err == api.OK {
			l = append(l, s)
		}
	}
	return l
}

// unplaced are tokens with no places.
func unplaced(l []api.Token) []api.Token {
	l = slices.Clone(l)
	for i := range l {
		l[i].At = 0
	}
	return l
}

// joined is the texts of tokens, with the same one between each two.
func joined(l []api.Token, between string) string {
	var texts []string
	for _, x := range l {
		texts = append(texts, x.Text)
	}
	return strings.Join(texts, between)
}

// L3: whatever blanks stand between.
func TestTextsWithBlanksBetween(t *testing.T) {
	for _, s := range strategies() {
		l, err, _ := Lex(s)
		if err != api.OK {
			t.Errorf("Lex(%.60q) = %d", s, err)
		}
		for _, between := range []string{" ", "\n"} {
			again, err, at := Lex(joined(l, between))
			if err != api.OK || at != 0 || !slices.Equal(unplaced(again), unplaced(l)) {
				t.Errorf("Lex(%.60q), and its texts with %q between: %.300v, %.300v", s, between, l, again)
			}
		}
	}
}

// L3, L2: blanks may make the text longer than it may be.
func TestTextsWithBlanksBeyondTheLimit(t *testing.T) {
	l, err, _ := Lex(strings.Repeat("(", 1001))
	if err != api.OK || len(l) != 1002 {
		t.Errorf("Lex of 1001 signs = %d, %d", len(l), err)
	}
	expect(t, joined(l, " "), nil, api.ErrLong, 2000)
}

// L3: a token that is cut out, by its place and its text.
func TestTokensAlone(t *testing.T) {
	for _, s := range strategies() {
		l, _, _ := Lex(s)
		for i, x := range l {
			text := s[x.At : x.At+len(x.Text)]
			if text != x.Text {
				t.Errorf("Lex(%.60q) tells %v, where %q stands", s, x, text)
			}
			end := api.Token{Kind: api.TokEnd, At: len(text)}
			x.At = 0
			if i == len(l)-1 {
				expect(t, text, []api.Token{x}, api.OK, 0)
				continue
			}
			expect(t, text, []api.Token{x, end}, api.OK, 0)
		}
	}
}

// P1: whatever bytes: it ends, and tells the same for the same, and a place
// within the text.
func TestAnyBytes(t *testing.T) {
	for seed := range 3000 {
		b := make([]byte, seed%50)
		state := uint32(seed)
		for i := range b {
			state = state*1664525 + 1013904223
			b[i] = byte(state >> 24)
		}
		s := string(b)
		compare(t, s)
		first, err, at := Lex(s)
		again, errAgain, atAgain := Lex(s)
		if err != errAgain || at != atAgain || !slices.Equal(first, again) || at > len(s) {
			t.Errorf("Lex(%q) = %v, %d, %d, then %v, %d, %d", s, first, err, at, again, errAgain, atAgain)
		}
	}
}
