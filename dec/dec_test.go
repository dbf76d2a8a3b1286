package dec

import (
	"math"
	"math/big"
	"slices"
	"strings"
	"testing"

	"haggler/api"
)

const most = api.MaxMoney

// edges are numbers at which a bound, a sign, the digits or the 64 bits end,
// and ordinary ones between them.
func edges() []int {
	l := []int{math.MinInt, math.MinInt + 1, math.MaxInt - 1, math.MaxInt}
	for _, a := range []int{0, 5, 10, 42, 100, 450, 1000, 1234, 10000, 99999, 1 << 31, 1 << 32, most / 100, most / 10, most / 2, most, 10 * most, 100 * most} {
		for _, by := range []int{-1, 0, 1} {
			l = append(l, a+by, -a-by)
		}
	}
	slices.Sort(l)
	return slices.Compact(l)
}

// decimal is a number's digits, as math/big tells them.
func decimal(n int) string { return big.NewInt(int64(n)).String() }

// pointed is the text of an amount, made of the digits of all of it: at least
// three, with a point ahead of the last two.
func pointed(a int) string {
	digits, below := strings.CutPrefix(decimal(a), "-")
	for len(digits) < 3 {
		digits = "0" + digits
	}
	at := len(digits) - 2
	text := digits[:at] + "." + digits[at:]
	if below {
		return "-" + text
	}
	return text
}

// rightly tells whether a number is an amount.
func rightly(a int) bool { return -most <= a && a <= most }

// spellings are all texts of at most so many of these pieces.
func spellings(pieces []string, longest int) []string {
	all := []string{""}
	last := all
	for range longest {
		var next []string
		for _, s := range last {
			for _, p := range pieces {
				next = append(next, s+p)
			}
		}
		all = append(all, next...)
		last = next
	}
	return all
}

// B1
func TestNumberByHand(t *testing.T) {
	for _, x := range []struct {
		n    int
		want string
	}{
		{0, "0"},
		{7, "7"},
		{-1, "-1"},
		{10, "10"},
		{120, "120"},
		{-120, "-120"},
		{1000000000000, "1000000000000"},
		{1000000000001, "1000000000001"},
		{math.MaxInt, "9223372036854775807"},
		{math.MinInt, "-9223372036854775808"},
	} {
		if got := Number(x.n); got != x.want {
			t.Errorf("Number(%d) = %q", x.n, got)
		}
	}
}

// B1
func TestNumberAtEdges(t *testing.T) {
	for _, n := range edges() {
		if got := Number(n); got != decimal(n) {
			t.Errorf("Number(%d) = %q", n, got)
		}
	}
}

// B1
func TestCountByHand(t *testing.T) {
	for _, x := range []struct {
		s          string
		most, want int
	}{
		{"0", 0, 0},
		{"7", 7, 7},
		{"120", 1000, 120},
		{"1000", 1000, 1000},
		{"999999999999", most, 999999999999},
		{"1000000000000", most, most},
		// Above most.
		{"8", 7, -1},
		{"1", 0, -1},
		{"1001", 1000, -1},
		{"10", 9, -1},
		// A most above 10^12 is as 10^12, one below 0 leaves nothing.
		{"1000000000000", most + 1, most},
		{"1000000000001", most + 1, -1},
		{"1000000000000", math.MaxInt, most},
		{"1000000000001", math.MaxInt, -1},
		{"0", -1, -1},
		{"0", math.MinInt, -1},
		{"-1", -1, -1},
		// As many digits as would run over 64 bits, to what might be again.
		{"9223372036854775807", math.MaxInt, -1},
		{"9223372036854775808", math.MaxInt, -1},
		{"18446744073709551616", math.MaxInt, -1},
		{"18446744073709551623", math.MaxInt, -1},
		{strings.Repeat("9", 10000), math.MaxInt, -1},
		// Noughts ahead.
		{"00", 9, -1},
		{"07", 9, -1},
		{"01000000000000", most, -1},
		{strings.Repeat("0", 10000), 9, -1},
		// What is no digit.
		{"", 9, -1},
		{"-", 9, -1},
		{"-0", 9, -1},
		{"-7", 9, -1},
		{"+7", 9, -1},
		{" 7", 9, -1},
		{"7 ", 9, -1},
		{"7\n", 9, -1},
		{"7\x00", 9, -1},
		{"1_0", 99, -1},
		{"0x1", 99, -1},
		{"1e1", 99, -1},
		{"1.0", 99, -1},
		{"a", 99, -1},
		{"/", 99, -1},
		{":", 99, -1},
		{"1/", 99, -1},
		{"1:", 99, -1},
		{"\u0661", 99, -1},
		{"1\u0661", 999, -1},
		{"\uff11", 99, -1},
		{"\xff", 99, -1},
		{"1\xb1", 99, -1},
	} {
		if got := Count(x.s, x.most); got != x.want {
			t.Errorf("Count(%q, %d) = %d", x.s, x.most, got)
		}
	}
}

// B1: of all short texts those alone are numbers that some number has.
func TestCountOfAllShortTexts(t *testing.T) {
	numbers := map[string]int{}
	for n := range 10000 {
		numbers[decimal(n)] = n
	}
	for _, s := range spellings([]string{"0", "1", "9", "-", "+", ".", " ", "\u0660"}, 4) {
		for _, most := range []int{-1, 0, 1, 9, 10, 11, 99, 100, 9990, 9999, math.MaxInt} {
			want, ok := numbers[s]
			if !ok || want > most {
				want = -1
			}
			if got := Count(s, most); got != want {
				t.Errorf("Count(%q, %d) = %d", s, most, got)
			}
		}
	}
}

// amounts are amounts and their texts.
func amounts() map[string]int {
	return map[string]int{
		"0.00":            0,
		"0.05":            5,
		"-0.05":           -5,
		"0.10":            10,
		"-0.50":           -50,
		"0.99":            99,
		"-0.99":           -99,
		"1.00":            100,
		"-1.00":           -100,
		"1.01":            101,
		"10.00":           1000,
		"12.34":           1234,
		"-12.34":          -1234,
		"9999999999.99":   most - 1,
		"-9999999999.99":  -most + 1,
		"10000000000.00":  most,
		"-10000000000.00": -most,
	}
}

// B2
func TestTextByHand(t *testing.T) {
	for want, a := range amounts() {
		if got := Text(a); got != want {
			t.Errorf("Text(%d) = %q", a, got)
		}
	}
}

// B2
func TestTextOfNoAmount(t *testing.T) {
	for _, a := range []int{most + 1, -most - 1, math.MaxInt, math.MinInt, math.MinInt + 1} {
		if got := Text(a); got != "" {
			t.Errorf("Text(%d) = %q", a, got)
		}
	}
}

// B2
func TestTextAtEdges(t *testing.T) {
	for _, a := range edges() {
		want := ""
		if rightly(a) {
			want = pointed(a)
		}
		if got := Text(a); got != want {
			t.Errorf("Text(%d) = %q", a, got)
		}
	}
}

// B3
func TestParseByHand(t *testing.T) {
	for s, want := range amounts() {
		if got, err := Parse(s); got != want || err != api.OK {
			t.Errorf("Parse(%q) = %d, %d", s, got, err)
		}
	}
}

// B3
func TestParseOfNoAmount(t *testing.T) {
	for _, s := range []string{
		"", "-", ".", "-.", "1", "-1", "100", "1.", "1.0", "1.5", "1.000", "1.234", ".5", ".00", ".05", "-.05",
		// Noughts ahead, and a sign of 0.
		"00.00", "01.00", "-01.00", "00.05", "-0.00", "-00.00", "-0.0",
		// Other signs, and signs elsewhere.
		"+1.00", "--1.00", "-+1.00", "1.-5", "1.+5", "1.-05", "1-.00", "1.00-", "\u22121.00",
		// What is neither a digit nor the point.
		" 1.00", "1.00 ", "1 .00", "1. 0", "1.00\n", "1.0\x00", "1,00", "1_0.00", "1.0a", "a.00", "0x1.00", "1e1.00", "1.0/", "1.0:", "1./0", "1.:0", "$1.00",
		// More points.
		"1..00", "1.2.34", "1.00.", ".1.00", "1.0.",
		// Digits that are none of those ten, and no runes.
		"\u0661.00", "1.\u0661", "1.0\u0660", "\uff11.00", "1\uff0e00", "\xff.00", "1.\xff0", "1.0\xb0",
		// Beyond, and beyond 64 bits.
		"10000000000.01", "-10000000000.01", "10000000001.00", "-10000000001.00", "100000000000.00",
		"92233720368547758.08", "-92233720368547758.08", "184467440737095516.16", "184467440737095516.23", "99999999999999999999.00",
		strings.Repeat("9", 10000) + ".00", strings.Repeat("0", 10000) + ".00", "1." + strings.Repeat("0", 10000), strings.Repeat("-", 10000),
	} {
		if got, err := Parse(s); got != 0 || err != api.ErrText {
			t.Errorf("Parse(%q) = %d, %d", s, got, err)
		}
	}
}

// B3: of all short texts those alone are amounts' that some amount has.
func TestParseOfAllShortTexts(t *testing.T) {
	texts := map[string]int{}
	for a := range 100000 {
		texts[pointed(a)], texts[pointed(-a)] = a, -a
	}
	for _, s := range spellings([]string{"0", "1", "9", "-", ".", " ", "\u0660"}, 6) {
		want, wantErr := 0, api.ErrText
		if a, ok := texts[s]; ok {
			want, wantErr = a, api.OK
		}
		if got, err := Parse(s); got != want || err != wantErr {
			t.Errorf("Parse(%q) = %d, %d", s, got, err)
		}
	}
}

// B4
func TestParseUndoesText(t *testing.T) {
	for _, a := range edges() {
		if !rightly(a) {
			continue
		}
		if got, err := Parse(Text(a)); got != a || err != api.OK {
			t.Errorf("Parse(Text(%d)) = %d, %d", a, got, err)
		}
	}
}

// B4
func TestTextUndoesParse(t *testing.T) {
	for _, s := range spellings([]string{"0", "1", "5", "-", "."}, 6) {
		a, err := Parse(s)
		if err != api.OK {
			continue
		}
		if got := Text(a); got != s {
			t.Errorf("Text(Parse(%q)) = %q", s, got)
		}
	}
}

// B4
func TestCountUndoesNumber(t *testing.T) {
	for _, n := range edges() {
		for _, most := range edges() {
			want := n
			if n < 0 || n > most || !rightly(n) {
				want = -1
			}
			if got := Count(Number(n), most); got != want {
				t.Errorf("Count(Number(%d), %d) = %d", n, most, got)
			}
		}
	}
}

// B4
func TestUnlikeAmountsHaveUnlikeTexts(t *testing.T) {
	told := map[string]int{}
	tell := func(a int) {
		s := Text(a)
		if other, ok := told[s]; ok && other != a {
			t.Errorf("Text(%d) = Text(%d) = %q", a, other, s)
		}
		told[s] = a
	}
	for a := -12000; a <= 12000; a++ {
		tell(a)
	}
	for _, a := range edges() {
		if rightly(a) {
			tell(a)
		}
	}
}
