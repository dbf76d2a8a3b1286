package feed

import (
	"math"
	"math/big"
	"regexp"
	"slices"
	"strings"
	"testing"
	"unsafe"

	"haggler/api"
)

// own are the words of the language of strategies: no names.
func own() []string {
	return strings.Fields("lowest second from less cut min max else if more above")
}

// The shapes of names, of numbers from 1 on, and of amounts.
var (
	named   = regexp.MustCompile(`^[a-z][a-z0-9]{0,11}$`)
	counted = regexp.MustCompile(`^[1-9][0-9]*$`)
	paid    = regexp.MustCompile(`^(?:0|[1-9][0-9]*)\.[0-9][0-9]$`)
)

// nameable tells whether a text is a name.
func nameable(s string) bool { return named.MatchString(s) && !slices.Contains(own(), s) }

// positive is the number of these digits, if it is from 1 to 10^12.
func positive(digits string) (int, bool) {
	n, _ := new(big.Int).SetString(digits, 10)
	if n.Sign() < 1 || n.Cmp(big.NewInt(1000000000000)) > 0 {
		return 0, false
	}
	return int(n.Int64()), true
}

// decimal is a number's digits, as math/big tells them.
func decimal(n int) string { return big.NewInt(int64(n)).String() }

// pointed is the text of an amount from 1 on, made of the digits of all of it.
func pointed(a int) string {
	digits := decimal(a)
	for len(digits) < 3 {
		digits = "0" + digits
	}
	at := len(digits) - 2
	return digits[:at] + "." + digits[at:]
}

// rightly is what Right is to tell.
func rightly(f api.Feed) bool {
	const most = 1000000000000
	return nameable(f.Source) && nameable(f.Sku) && nameable(f.Seller) && 1 <= f.Seq && f.Seq <= most && 0 <= f.Price && f.Price <= most
}

// spelled is what Encode is to tell.
func spelled(f api.Feed) (string, api.Errno) {
	if !rightly(f) {
		return "", api.ErrArg
	}
	price := "gone"
	if f.Price > 0 {
		price = pointed(f.Price)
	}
	return f.Source + " " + decimal(f.Seq) + " " + f.Sku + " " + f.Seller + " " + price, api.OK
}

// stands puts into a line what a field tells there, if it may stand there.
func stands(f *api.Feed, at int, s string) bool {
	ok := false
	switch at {
	case 0:
		f.Source, ok = s, nameable(s)
	case 1:
		if counted.MatchString(s) {
			f.Seq, ok = positive(s)
		}
	case 2:
		f.Sku, ok = s, nameable(s)
	case 3:
		f.Seller, ok = s, nameable(s)
	case 4:
		ok = s == "gone"
		if paid.MatchString(s) {
			f.Price, ok = positive(strings.Replace(s, ".", "", 1))
		}
	}
	return ok
}

// reference is what Decode is to answer.
func reference(s string) (api.Feed, api.Errno, int) {
	if len(s) > 100 {
		return api.Feed{}, api.ErrLong, 0
	}
	if strings.Count(s, " ") != 4 {
		return api.Feed{}, api.ErrFields, 0
	}
	var f api.Feed
	for at := range 5 {
		field, rest, _ := strings.Cut(s, " ")
		if !stands(&f, at, field) {
			return api.Feed{}, api.ErrField, at
		}
		s = rest
	}
	return f, api.OK, 0
}

// expect holds what Decode answers against what it is to answer.
func expect(t *testing.T, s string, want api.Feed, wantErr api.Errno, wantAt int) {
	t.Helper()
	if got, err, at := Decode(s); got != want || err != wantErr || at != wantAt {
		t.Errorf("Decode(%.120q) = %v, %d, %d; want %v, %d, %d", s, got, err, at, want, wantErr, wantAt)
	}
}

// compare holds what Decode answers against the reference.
func compare(t *testing.T, s string) {
	t.Helper()
	want, err, at := reference(s)
	expect(t, s, want, err, at)
}

// refused holds that a text is refused for one of its fields.
func refused(t *testing.T, s string, at int) {
	t.Helper()
	expect(t, s, api.Feed{}, api.ErrField, at)
}

// judged holds what Right and Encode tell of a line against the reference.
func judged(t *testing.T, f api.Feed) {
	t.Helper()
	if got := Right(f); got != rightly(f) {
		t.Errorf("Right(%v) = %t", f, got)
	}
	want, wantErr := spelled(f)
	if got, err := Encode(f); got != want || err != wantErr {
		t.Errorf("Encode(%v) = %q, %d; want %q, %d", f, got, err, want, wantErr)
	}
}

// alone is a text of one byte.
func alone(b int) string { return string([]byte{byte(b)}) }

// spellings are all texts of at most so many of these pieces.
func spellings(pieces []string, longest int) []string {
	all := []string{""}
	last := all
	for range longest {
		var next []string
		for _, s := range last {
			for _, p := range pieces {
				next = append(next, s+p)
			}
		}
		all = append(all, next...)
		last = next
	}
	return all
}

// lines are right lines and their texts: ordinary ones and those at the edges.
func lines() map[string]api.Feed {
	return map[string]api.Feed{
		"acme 7 mug bob 4.99":                {Source: "acme", Seq: 7, Sku: "mug", Seller: "bob", Price: 499},
		"acme 8 mug bob gone":                {Source: "acme", Seq: 8, Sku: "mug", Seller: "bob"},
		"a 1 b c gone":                       {Source: "a", Seq: 1, Sku: "b", Seller: "c"},
		"a 1 b c 0.01":                       {Source: "a", Seq: 1, Sku: "b", Seller: "c", Price: 1},
		"a 1 b c 0.10":                       {Source: "a", Seq: 1, Sku: "b", Seller: "c", Price: 10},
		"a 1 b c 1.00":                       {Source: "a", Seq: 1, Sku: "b", Seller: "c", Price: 100},
		"a 1 b c 9999999999.99":              {Source: "a", Seq: 1, Sku: "b", Seller: "c", Price: 999999999999},
		"a 1 b c 10000000000.00":             {Source: "a", Seq: 1, Sku: "b", Seller: "c", Price: 1000000000000},
		"a 2 b c 2.00":                       {Source: "a", Seq: 2, Sku: "b", Seller: "c", Price: 200},
		"a 10 b c gone":                      {Source: "a", Seq: 10, Sku: "b", Seller: "c"},
		"a 120 b c gone":                     {Source: "a", Seq: 120, Sku: "b", Seller: "c"},
		"a 100001 b c gone":                  {Source: "a", Seq: 100001, Sku: "b", Seller: "c"},
		"a 999999999999 b c gone":            {Source: "a", Seq: 999999999999, Sku: "b", Seller: "c"},
		"a 1000000000000 b c gone":           {Source: "a", Seq: 1000000000000, Sku: "b", Seller: "c"},
		"gone 1 gone gone gone":              {Source: "gone", Seq: 1, Sku: "gone", Seller: "gone"},
		"same 3 same same 3.00":              {Source: "same", Seq: 3, Sku: "same", Seller: "same", Price: 300},
		"z9 1 iff lowests gone":              {Source: "z9", Seq: 1, Sku: "iff", Seller: "lowests"},
		"abcdefghijkl 1 b7 fixed gone":       {Source: "abcdefghijkl", Seq: 1, Sku: "b7", Seller: "fixed"},
		"a00000000000 1 zzzzzzzzzzzz c 5.00": {Source: "a00000000000", Seq: 1, Sku: "zzzzzzzzzzzz", Seller: "c", Price: 500},
		// As long as a line may be.
		"abcdefghijkl 1000000000000 mnopqrstuvwx yz0123456789 10000000000.00": {Source: "abcdefghijkl", Seq: 1000000000000, Sku: "mnopqrstuvwx", Seller: "yz0123456789", Price: 1000000000000},
		"zzzzzzzzzzzz 999999999999 a00000000000 a99999999999 9999999999.99":   {Source: "zzzzzzzzzzzz", Seq: 999999999999, Sku: "a00000000000", Seller: "a99999999999", Price: 999999999999},
	}
}

// names are names, noNames texts that are none.
func names() []string {
	return []string{"a", "z", "bob", "mug", "gone", "bob7", "a0", "z9", "iff", "lowests", "xmin", "if0", "push", "abcdefghijkl", "a00000000000"}
}

func noNames() []string {
	return append(own(), "", " ", "A", "Bob", "boB", "7", "7up", "0", "1.00", "-", "a b", "a ", " a", "a\n", "\na", "a\t", "a.b", "a_b", "a-b", "abcdefghijklm", "a000000000000", strings.Repeat("a", 5000),
		"\x00", "a\x00", "\xff", "a\xff", "\u00e9", "caf\u00e9", "a\u0661", "\u00a0", "\uff41", "(", "a,b")
}

// edges are numbers at which a bound, the digits or the 64 bits end.
func edges() []int {
	l := []int{math.MinInt, math.MinInt + 1, math.MaxInt - 1, math.MaxInt}
	for _, n := range []int{0, 9, 42, 100, 1000, 100000, 1 << 31, 1 << 32, 1 << 40, 10000000000, 100000000000, 1000000000000, 10000000000000, 1 << 50, 1 << 62} {
		for _, by := range []int{-1, 0, 1} {
			l = append(l, n+by, -n-by)
		}
	}
	slices.Sort(l)
	return slices.Compact(l)
}

func good() api.Feed { return api.Feed{Source: "acme", Seq: 7, Sku: "mug", Seller: "bob", Price: 499} }

// E1, E2, E3
func TestLines(t *testing.T) {
	for s, f := range lines() {
		if !Right(f) {
			t.Errorf("Right(%v) = false", f)
		}
		if got, err := Encode(f); got != s || err != api.OK {
			t.Errorf("Encode(%v) = %q, %d; want %q", f, got, err, s)
		}
		expect(t, s, f, api.OK, 0)
	}
}

// E1, E2: each field by itself.
func TestEachFieldOfALine(t *testing.T) {
	judged(t, api.Feed{})
	judged(t, good())
	for _, s := range append(names(), noNames()...) {
		for _, change := range []func(f *api.Feed){
			func(f *api.Feed) { f.Source = s },
			func(f *api.Feed) { f.Sku = s },
			func(f *api.Feed) { f.Seller = s },
			func(f *api.Feed) { f.Source, f.Sku, f.Seller = s, s, s },
		} {
			f := good()
			change(&f)
			judged(t, f)
			if got := Right(f); got != slices.Contains(names(), s) {
				t.Errorf("Right(%v) = %t", f, got)
			}
		}
	}
	for _, n := range edges() {
		f := good()
		f.Seq = n
		judged(t, f)
		f = good()
		f.Price = n
		judged(t, f)
	}
}

// E1, E2
func TestRightByHand(t *testing.T) {
	for _, x := range []struct {
		seq, price int
		want       bool
	}{
		{1, 0, true},
		{1, 1, true},
		{7, 499, true},
		{1000000000000, 1000000000000, true},
		{1000000000000, 0, true},
		{1, 1000000000000, true},
		{0, 0, false},
		{0, 499, false},
		{-1, 499, false},
		{1000000000001, 499, false},
		{math.MaxInt, 499, false},
		{math.MinInt, 499, false},
		{7, -1, false},
		{7, -499, false},
		{7, -1000000000000, false},
		{7, 1000000000001, false},
		{7, math.MaxInt, false},
		{7, math.MinInt, false},
	} {
		f := api.Feed{Source: "acme", Seq: x.seq, Sku: "mug", Seller: "bob", Price: x.price}
		if got := Right(f); got != x.want {
			t.Errorf("Right(%v) = %t", f, got)
		}
		s, err := Encode(f)
		if x.want != (err == api.OK) || x.want != (s != "") || !x.want && err != api.ErrArg {
			t.Errorf("Encode(%v) = %q, %d", f, s, err)
		}
	}
}

// E1, E2: right and wrong fields, each with each.
func TestFieldsWithEachOther(t *testing.T) {
	texts := []string{"", "a", "bob7", "if", "Bob", "abcdefghijklm", " "}
	numbers := []int{math.MinInt, -1, 0, 1, 100, 1000000000000, 1000000000001, math.MaxInt}
	for _, source := range texts {
		for _, sku := range texts {
			for _, seller := range texts {
				for _, seq := range numbers {
					for _, price := range numbers {
						judged(t, api.Feed{Source: source, Seq: seq, Sku: sku, Seller: seller, Price: price})
					}
				}
			}
		}
	}
}

// E3: by bytes, not by runes, and ahead of all else that is wrong.
func TestLimit(t *testing.T) {
	for _, size := range []int{101, 102, 200, 2000, 1 << 20} {
		for _, one := range []string{"a", " ", "\x00", "\xff", "A", "0"} {
			expect(t, strings.Repeat(one, size), api.Feed{}, api.ErrLong, 0)
		}
	}
	expect(t, strings.Repeat("\u20ac", 34), api.Feed{}, api.ErrLong, 0)
	expect(t, "A 0 B C "+strings.Repeat("a", 93), api.Feed{}, api.ErrLong, 0)
	expect(t, "a 1 b c gone"+strings.Repeat(" ", 89), api.Feed{}, api.ErrLong, 0)
	expect(t, "a 1 b "+strings.Repeat("c", 90)+" gone", api.Feed{}, api.ErrLong, 0)
	// As many as a line may have.
	expect(t, strings.Repeat("a", 100), api.Feed{}, api.ErrFields, 0)
	expect(t, strings.Repeat(" ", 100), api.Feed{}, api.ErrFields, 0)
	expect(t, strings.Repeat("\u20ac", 33), api.Feed{}, api.ErrFields, 0)
	expect(t, "a 1 b c gone"+strings.Repeat(" ", 88), api.Feed{}, api.ErrFields, 0)
	refused(t, "a 1 b "+strings.Repeat("c", 89)+" gone", 3)
	refused(t, "a 1 b c "+strings.Repeat("9", 89)+".99", 4)
	refused(t, strings.Repeat("a", 92)+" 1 b c 1", 0)
	for size := range 200 {
		compare(t, strings.Repeat("a", size))
		compare(t, "a 1 b c gone"+strings.Repeat("e", size))
		compare(t, strings.Repeat(" ", size))
	}
}

// E3: parted by a blank each, and by nothing else.
func TestCountOfFields(t *testing.T) {
	for _, s := range []string{
		"", "a", "a 1", "a 1 b", "a 1 b c", "a 1 b c gone d", "a 1 b c gone gone", "a 1 b c 1.00 gone", "a 1 b c 1.00 1.00 1.00",
		" ", "  ", "   ", "     ", "      ",
		// A blank too many, at each place.
		" a 1 b c gone", "a  1 b c gone", "a 1  b c gone", "a 1 b  c gone", "a 1 b c  gone", "a 1 b c gone ",
		// Others that part nothing.
		"a\t1\tb\tc\tgone", "a 1 b c\tgone", "a,1,b,c,gone", "a\n1\nb\nc\ngone", "a 1 b c\ngone", "a\u00a01\u00a0b\u00a0c\u00a0gone", "a\x001 b c gone",
		// Nor do other faults lead ahead of this.
		"A 0 B C", "if 0 if if if if",
	} {
		expect(t, s, api.Feed{}, api.ErrFields, 0)
	}
	for count := range 51 {
		want := api.ErrFields
		if count == 4 {
			want = api.ErrField
		}
		expect(t, strings.Repeat(" ", count), api.Feed{}, want, 0)
	}
}

// E3
func TestFieldsThatMayNotStand(t *testing.T) {
	for _, s := range noNames() {
		if strings.Contains(s, " ") || len(s) > 80 {
			continue
		}
		refused(t, s+" 1 b c gone", 0)
		refused(t, "a 1 "+s+" c gone", 2)
		refused(t, "a 1 b "+s+" gone", 3)
	}
	for _, s := range []string{
		"", "0", "-1", "-0", "+1", "01", "007", "00", "1.0", "1.00", "1e1", "0x1", "1_0", "a", "gone", "1\n", "\n1", "1\t", "1\x00", "\x001", "\xb1", "1\u0661", "\u0661", "\uff11", "1,000", "1/", "1:",
		"1000000000001", "1000000000010", "9999999999999", "01000000000000", "9223372036854775807", "9223372036854775808", "18446744073709551616", "18446744073709551617", "18446744073709551623", strings.Repeat("9", 80),
	} {
		refused(t, "a "+s+" b c gone", 1)
		refused(t, "a "+s+" b c 1.00", 1)
	}
	for _, s := range []string{
		"", "0.00", "0", "0.0", "-0.00", "-0.01", "-1.00", "-10000000000.00", "+1.00", "00.00", "01.00", "00.01", ".00", ".01", "1", "100", "1.", "1.0", "1.000", "1.001", "1..00", "1.2.34", "1,00", "1.00.", "a.00", "1.0a", "1.0\xb0", "1.\u0661", "\uff11.00", "1.00\n", "\n1.00", "1.00\r", "1.00\x00", "1e1.00", "$1.00", "0x1.00",
		"10000000000.01", "10000000001.00", "100000000000.00", "92233720368547758.08", "184467440737095516.16", "184467440737095516.17", strings.Repeat("9", 80) + ".99",
		"Gone", "GONE", "gone.", "gon", "gonee", "gone\n", "\ngone", "gone\x00", "one", "none", "away", "bob", "a", "-", ".",
	} {
		refused(t, "a 1 b c "+s, 4)
	}
}

// E3: of several that may not stand where they do the first one is told.
func TestFirstField(t *testing.T) {
	right := []string{"a", "1", "b", "c", "1.00"}
	for _, wrong := range [][]string{
		{"", "", "", "", ""},
		{"A", "0", "B", "C", "0.00"},
		{"if", "01", "min", "2c", "-1.00"},
		{"1", "a", "1", "1.00", "a"},
		{"abcdefghijklm", "1000000000001", "abcdefghijklm", "abcdefghijklm", "10000000000.01"},
		{"\xff", "\xff", "\xff", "\xff", "\xff"},
	} {
		for which := range 1 << 5 {
			l := slices.Clone(right)
			want := 5
			for at := range 5 {
				if which>>at&1 == 1 {
					l[at] = wrong[at]
					want = min(want, at)
				}
			}
			s := strings.Join(l, " ")
			if which == 0 {
				expect(t, s, api.Feed{Source: "a", Seq: 1, Sku: "b", Seller: "c", Price: 100}, api.OK, 0)
				continue
			}
			refused(t, s, want)
		}
	}
}

// E3: all lines of five of these fields.
func TestAllLinesOfSomeFields(t *testing.T) {
	fields := []string{"", "a", "gone", "bob7", "if", "A", "1", "0", "1000000000001", "1.00", "0.00", "-1.00"}
	for _, a := range fields {
		for _, b := range fields {
			for _, c := range fields {
				for _, d := range fields {
					for _, e := range fields {
						compare(t, a+" "+b+" "+c+" "+d+" "+e)
					}
				}
			}
		}
	}
}

// E3: all short texts, by themselves and where each field is.
func TestAllShortTexts(t *testing.T) {
	for _, s := range spellings([]string{"a", "1", "0", ".", " ", "-", "gone", "\u0661"}, 5) {
		compare(t, s)
		compare(t, s+" 1 b c gone")
		compare(t, "a "+s+" b c gone")
		compare(t, "a 1 "+s+" c gone")
		compare(t, "a 1 b "+s+" gone")
		compare(t, "a 1 b c "+s)
	}
}

// E3: right lines with one byte less, more or changed.
func TestLinesWithOneByteUnlike(t *testing.T) {
	for s := range lines() {
		for at := range len(s) + 1 {
			compare(t, s[:at])
			compare(t, s[at:])
			if at < len(s) {
				compare(t, s[:at]+s[at+1:])
			}
			for b := range 256 {
				compare(t, s[:at]+alone(b)+s[at:])
				if at < len(s) {
					compare(t, s[:at]+alone(b)+s[at+1:])
				}
			}
		}
	}
}

// state is what a short rule chooses by.
type state uint32

func (s *state) next(most int) int {
	*s = *s*1664525 + 1013904223
	return int(*s>>8) % most
}

// made is a right line, as a short rule makes it.
func made(seed int) api.Feed {
	s := state(seed)
	name := func() string {
		b := []byte{byte('a' + s.next(26))}
		for range s.next(12) {
			b = append(b, "abcdefghijklmnopqrstuvwxyz0123456789"[s.next(36)])
		}
		if slices.Contains(own(), string(b)) {
			return "word"
		}
		return string(b)
	}
	number := func() int {
		most := 10
		for range s.next(12) {
			most *= 10
		}
		return s.next(1<<20) * (1 << 20) % most
	}
	return api.Feed{Source: name(), Seq: number() + 1, Sku: name(), Seller: name(), Price: number()}
}

// E4
func TestDecodeUndoesEncode(t *testing.T) {
	for seed := range 20000 {
		f := made(seed)
		judged(t, f)
		s, err := Encode(f)
		if err != api.OK || len(s) > 100 {
			t.Errorf("Encode(%v) = %q, %d", f, s, err)
		}
		expect(t, s, f, api.OK, 0)
	}
	for _, n := range edges() {
		if n < 1 || n > 1000000000000 {
			continue
		}
		f := api.Feed{Source: "a", Seq: n, Sku: "b", Seller: "c", Price: n}
		s, _ := Encode(f)
		expect(t, s, f, api.OK, 0)
	}
}

// E4
func TestEncodeUndoesDecode(t *testing.T) {
	undone := func(s string) {
		f, err, _ := Decode(s)
		if err != api.OK {
			return
		}
		if got, err := Encode(f); !Right(f) || got != s || err != api.OK {
			t.Errorf("Encode(Decode(%q)) = %q, %d", s, got, err)
		}
	}
	for _, s := range spellings([]string{"0", "1", "9", ".", "-", "a", "gone"}, 5) {
		undone("a " + s + " b c gone")
		undone("a 1 b c " + s)
		undone(s + " 1 b c 1.00")
	}
	for seed := range 5000 {
		s, _ := Encode(made(seed))
		undone(s)
		undone("\n" + s)
		undone(s + "0")
		undone(strings.Replace(s, " ", " 0", 1+seed%4))
		undone(strings.ToUpper(s))
	}
}

// E4: one field that may not be, in whatever line else.
func TestOneFieldThatMayNotBe(t *testing.T) {
	wrong := [][]string{
		{"", "A", "7", "if", "a.b", "abcdefghijklm"},
		{"", "0", "01", "-1", "a", "1.00", "1000000000001"},
		{"", "B", "7", "less", "b\n", "abcdefghijklm"},
		{"", "C", "7", "above", "c\x00", "abcdefghijklm"},
		{"", "0.00", "-1.00", "1", "01.00", "Gone", "bob", "10000000000.01"},
	}
	for seed := range 1000 {
		s, _ := Encode(made(seed))
		for at := range 5 {
			for _, x := range wrong[at] {
				l := strings.Split(s, " ")
				l[at] = x
				refused(t, strings.Join(l, " "), at)
			}
		}
	}
}

// R3: a text that is told has nothing of that which was handed in, or of
// another one.
func TestAnswersAreNewMemory(t *testing.T) {
	s := strings.Clone("acme 7 mug bob 4.99")
	f, _, _ := Decode(s)
	again, _, _ := Decode(s)
	within := func(part, all string) bool {
		from, at := uintptr(unsafe.Pointer(unsafe.StringData(all))), uintptr(unsafe.Pointer(unsafe.StringData(part)))
		return from <= at && at < from+uintptr(len(all))
	}
	for _, part := range []string{f.Source, f.Sku, f.Seller} {
		if within(part, s) {
			t.Errorf("Decode(%q) tells %q as a piece of it", s, part)
		}
		for _, other := range []string{again.Source, again.Sku, again.Seller} {
			if within(part, other) {
				t.Errorf("Decode(%q) tells %q as a piece of another answer", s, part)
			}
		}
	}
	first, _ := Encode(f)
	second, _ := Encode(f)
	if within(first, second) {
		t.Errorf("Encode(%v) tells one text twice", f)
	}
	if f != again || first != second {
		t.Errorf("Decode(%q) = %v, then %v; Encode: %q, then %q", s, f, again, first, second)
	}
}

// P1: whatever bytes: it ends, and tells the same for the same.
func TestAnyBytes(t *testing.T) {
	for seed := range 20000 {
		chosen := state(seed)
		b := make([]byte, seed%110)
		for i := range b {
			b[i] = byte(chosen.next(256))
			if chosen.next(6) == 0 {
				b[i] = ' '
			}
		}
		s := string(b)
		compare(t, s)
		compare(t, s)
		judged(t, api.Feed{Source: s, Seq: seed, Sku: s, Seller: s, Price: -seed})
	}
}
