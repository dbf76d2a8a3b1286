package config

import (
	"fmt"
	"math"
	"slices"
	"strings"
	"testing"

	"haggler/api"
	"haggler/dec"
	"haggler/parse"
	"haggler/tree"
	"haggler/value"
)

const (
	most    = 1000000000000 // of an amount
	longest = 1 << 20       // of all cooldowns
)

// beyond tells an amount that is too great, whatever the offers.
const beyond = "cut(10000000000.00, 100000)"

// plain is a config that is right, and asks for the lowest offer.
func plain() api.Config {
	return api.Config{Floor: 500, Ceiling: 900, Text: "lowest"}
}

// asks is a config between these, of this strategy.
func asks(floor, ceiling, least int, text string) api.Config {
	return api.Config{Floor: floor, Ceiling: ceiling, Map: least, Text: text}
}

// offered are offers at these prices, of the sellers a, b, c and so on.
func offered(prices ...int) []api.Offer {
	var l []api.Offer
	for i, p := range prices {
		l = append(l, api.Offer{Seller: string(rune('a' + i)), Price: p})
	}
	return l
}

// brief tells of a config no more than a message needs.
func brief(c api.Config) string {
	return fmt.Sprintf("%d to %d, map %d, cooldown %d, band %d, %d bytes %.100q", c.Floor, c.Ceiling, c.Map, c.Cooldown, c.Band, len(c.Text), c.Text)
}

func expectCheck(t *testing.T, c api.Config, want api.Errno) {
	t.Helper()
	if got := Check(c); got != want {
		t.Errorf("Check(%s) = %d; want %d", brief(c), got, want)
	}
}

func expectWithin(t *testing.T, c api.Config, price int, want bool) {
	t.Helper()
	if got := Within(c, price); got != want {
		t.Errorf("Within(%s; %d) = %t; want %t", brief(c), price, got, want)
	}
}

func expectTarget(t *testing.T, c api.Config, l []api.Offer, want int, wantIs bool) {
	t.Helper()
	if got, is := Target(c, l); got != want || is != wantIs {
		t.Errorf("Target(%s; %v) = %d, %t; want %d, %t", brief(c), l[:min(len(l), 10)], got, is, want, wantIs)
	}
}

// expectNothing holds that a config, which is right or not, asks for no price
// of these offers.
func expectNothing(t *testing.T, c api.Config, l []api.Offer) {
	t.Helper()
	expectTarget(t, c, l, 0, false)
}

// edges are numbers at which a config's numbers begin to be right, or end.
func edges() []int {
	return []int{math.MinInt, -most, -1, 0, 1, 2, 499, longest - 1, longest, longest + 1, most - 1, most, most + 1, math.MaxInt}
}

// bounds are the numbers of all configs that edges make, right and wrong ones.
func bounds() [][5]int {
	var all [][5]int
	for _, floor := range edges() {
		for _, ceiling := range edges() {
			for _, least := range edges() {
				for _, cooldown := range edges() {
					for _, band := range edges() {
						all = append(all, [5]int{floor, ceiling, least, cooldown, band})
					}
				}
			}
		}
	}
	return all
}

// of is a config of numbers, and of a text.
func of(n [5]int, text string) api.Config {
	return api.Config{Floor: n[0], Ceiling: n[1], Map: n[2], Cooldown: n[3], Band: n[4], Text: text}
}

// mayBe tells whether a config's numbers are right.
func mayBe(n [5]int) bool {
	for _, i := range n {
		if i < 0 || i > most {
			return false
		}
	}
	return n[0] > 0 && n[1] >= n[0] && n[2] <= n[1] && n[3] <= longest
}

// nested is a strategy's text, with so many calls around it.
func nested(times int, text string) string {
	return strings.Repeat("less(", times) + text + strings.Repeat(",0.01)", times)
}

// wide is a text of so many leaves, without blanks, of calls that are at most
// so deep as they must be.
func wide(leaves int, leaf string) string {
	if leaves == 1 {
		return leaf
	}
	half := leaves / 2
	return "min(" + wide(half, leaf) + "," + wide(leaves-half, leaf) + ")"
}

// wrongTexts are texts of which no strategy comes, by the error of each.
func wrongTexts() map[api.Errno][]string {
	return map[api.Errno][]string{
		api.ErrLong:   {strings.Repeat(" ", 1995) + "lowest", "lowest" + strings.Repeat("\n", 1995), strings.Repeat("@", 2001), strings.Repeat("lowest ", 10000)},
		api.ErrToken:  {"@", "lowest @", "9.9", "05.00", "-1.00", "Lowest", "less(lowest, 0,01)", "lowest\x00", "\t", "\xff", "caf\u00e9", "from(abcdefghijklm)", strings.Repeat("@", 2000)},
		api.ErrSyntax: {"", " ", "\n", "lowest second", "less(lowest 0.01)", "bob", "from(if)", "more(1)", "above(lowest, second)", "5", "(lowest)", "lowest)", "min(lowest)", "min(lowest, second, lowest)", "if(lowest, second, lowest)", "if(more(1001), second, lowest)", "cut(lowest, 1.00)", "less(lowest, 1)", nested(31, "second") + ","},
		api.ErrDeep:   {nested(32, "lowest"), nested(32, "@")[:160], nested(100, "lowest"), nested(31, "if(more(1), second, second)")},
		api.ErrArg:    {wide(155, "lowest"), wide(166, "second"), "less(" + wide(153, "lowest") + ",10000000.00)"},
	}
}

// rightTexts are texts of strategies, those at the edges among them.
func rightTexts() []string {
	l := strings.Split("lowest|second|from(bob)|0.00|5.00|10000000000.00|less(lowest, 0.01)|cut(lowest, 250)|min(lowest, second)|max(lowest, second)|else(less(lowest, 0.01), 9.99)|if(more(1000), second, lowest)|if(above(lowest, from(bob)), 5.00, lowest)", "|")
	l = append(l, " lowest\n", "less (lowest,0.01 )", nested(31, "lowest"), beyond)
	return append(l, "lowest"+strings.Repeat(" ", 1994), wide(154, "lowest"), "less("+wide(153, "lowest")+",1.00)")
}

// G1: each number at its edges.
func TestCheckByHand(t *testing.T) {
	expectCheck(t, plain(), api.OK)
	for _, x := range []struct {
		change func(c *api.Config, n int)
		right  []int
		wrong  []int
	}{
		{func(c *api.Config, n int) { c.Floor = n }, []int{1, 2, 500, 899, 900}, []int{math.MinInt, -500, -1, 0, 901, most, most + 1, math.MaxInt}},
		{func(c *api.Config, n int) { c.Ceiling = n }, []int{500, 501, 1 << 32, most - 1, most}, []int{math.MinInt, -900, -1, 0, 1, 499, most + 1, 1 << 40, math.MaxInt}},
		{func(c *api.Config, n int) { c.Map = n }, []int{0, 1, 499, 500, 501, 899, 900}, []int{math.MinInt, -900, -1, 901, most, most + 1, math.MaxInt}},
		{func(c *api.Config, n int) { c.Cooldown = n }, []int{0, 1, 1000, 1048575, 1048576}, []int{math.MinInt, -1048576, -1, 1048577, 1 << 32, most, math.MaxInt}},
		{func(c *api.Config, n int) { c.Band = n }, []int{0, 1, 400, 901, 1 << 32, most - 1, most}, []int{math.MinInt, -most, -1, most + 1, 1 << 40, math.MaxInt}},
	} {
		for _, n := range x.right {
			c := plain()
			x.change(&c, n)
			expectCheck(t, c, api.OK)
		}
		for _, n := range x.wrong {
			c := plain()
			x.change(&c, n)
			expectCheck(t, c, api.ErrRange)
			c.Text = "@"
			expectCheck(t, c, api.ErrRange)
		}
	}
	expectCheck(t, api.Config{}, api.ErrRange)
	expectCheck(t, asks(most, most, most, "lowest"), api.OK)
	expectCheck(t, asks(1, 1, 1, "lowest"), api.OK)
	expectCheck(t, asks(1, most, 0, "lowest"), api.OK)
}

// G1: numbers at their edges, each beside each.
func TestCheckNumbers(t *testing.T) {
	right := 0
	for _, n := range bounds() {
		want := api.ErrRange
		if mayBe(n) {
			want = api.OK
			right++
		}
		expectCheck(t, of(n, "lowest"), want)
	}
	if right < 1000 {
		t.Errorf("only %d configs are right", right)
	}
}

// G1: what is wrong with a text; a number that is wrong is told ahead of it.
func TestCheckTexts(t *testing.T) {
	for _, text := range rightTexts() {
		expectCheck(t, asks(500, 900, 0, text), api.OK)
		expectCheck(t, asks(901, 900, 0, text), api.ErrRange)
	}
	for want, texts := range wrongTexts() {
		for _, text := range texts {
			expectCheck(t, asks(500, 900, 0, text), want)
			expectCheck(t, asks(901, 900, 0, text), api.ErrRange)
			expectCheck(t, asks(500, most+1, 0, text), api.ErrRange)
			expectCheck(t, asks(500, 900, -1, text), api.ErrRange)
			expectCheck(t, api.Config{Floor: 1, Ceiling: 2, Cooldown: -1, Text: text}, api.ErrRange)
			expectCheck(t, api.Config{Floor: 1, Ceiling: 2, Band: -1, Text: text}, api.ErrRange)
		}
	}
}

// G1: a text that is short enough, whose strategy's one text is at most as long
// as it may be, or longer.
func TestCheckLength(t *testing.T) {
	seen := map[api.Errno]int{}
	for leaves := 100; leaves < 200; leaves++ {
		for _, leaf := range []string{"lowest", "0.00", "from(abcdef)", "0.00 "} {
			for _, end := range []string{"", " ", strings.Repeat("\n", 50)} {
				text := wide(leaves, leaf) + end
				want := api.OK
				// Of each call's two arguments the second one has a blank ahead.
				size := len(strings.ReplaceAll(wide(leaves, leaf), " ", "")) + leaves - 1
				if size > 2000 {
					want = api.ErrArg
				}
				if len(text) > 2000 {
					want = api.ErrLong
				}
				seen[want]++
				expectCheck(t, asks(500, 900, 0, text), want)
				if want != api.OK {
					expectNothing(t, asks(500, 900, 0, text), offered(700))
				}
			}
		}
	}
	if len(seen) != 3 {
		t.Errorf("of the errors only %v were made", seen)
	}
	// What stands beside the amount has 1990 bytes.
	for amount, want := range map[string]api.Errno{"1.00": api.OK, "999999.99": api.OK, "1000000.00": api.OK, "9999999.99": api.OK, "10000000.00": api.ErrArg, "99999999.99": api.ErrArg, "10000000000.00": api.ErrArg} {
		expectCheck(t, asks(500, 900, 0, "less("+wide(153, "lowest")+" ,"+amount+")"), want)
	}
}

// G2
func TestLow(t *testing.T) {
	for _, x := range [][3]int{{500, 0, 500}, {500, 600, 600}, {500, 500, 500}, {500, 499, 500}, {1, most, most}, {most, 1, most}} {
		if got := Low(asks(x[0], most, x[1], "lowest")); got != x[2] {
			t.Errorf("Low of floor %d and map %d is %d; want %d", x[0], x[1], got, x[2])
		}
	}
	// What is not right has a Low too, whatever its text and its other numbers.
	for _, floor := range edges() {
		for _, least := range edges() {
			want := floor
			if least > floor {
				want = least
			}
			for _, c := range []api.Config{{}, plain(), {Ceiling: -1, Cooldown: -1, Band: -1, Text: "@"}} {
				c.Floor, c.Map = floor, least
				if got := Low(c); got != want {
					t.Errorf("Low(%s) = %d; want %d", brief(c), got, want)
				}
			}
		}
	}
}

// G2
func TestWithinByHand(t *testing.T) {
	for _, x := range []struct {
		c         api.Config
		low, high int
	}{
		{plain(), 500, 900},
		{asks(500, 900, 600, "lowest"), 600, 900},
		{asks(500, 900, 400, "second"), 500, 900},
		{asks(500, 900, 900, "5.00"), 900, 900},
		{asks(500, 500, 0, "100.00"), 500, 500},
		{asks(1, most, 0, beyond), 1, most},
		{asks(most, most, most, "lowest"), most, most},
		{api.Config{Floor: 500, Ceiling: 900, Cooldown: longest, Band: most, Text: "lowest"}, 500, 900},
	} {
		for _, price := range append(edges(), x.low-1, x.low, x.low+1, (x.low+x.high)/2, x.high-1, x.high, x.high+1) {
			expectWithin(t, x.c, price, x.low <= price && price <= x.high)
		}
	}
}

// G2: no price is within a config that is not right.
func TestWithinOfWrongConfigs(t *testing.T) {
	for _, n := range bounds() {
		if n[4] > 2 && n[4] < most {
			continue
		}
		for _, price := range []int{0, 1, 499, most} {
			want := mayBe(n) && price >= n[0] && price >= n[2] && price <= n[1]
			expectWithin(t, of(n, "lowest"), price, want)
		}
	}
	for _, texts := range wrongTexts() {
		for _, text := range texts {
			for _, price := range []int{500, 700, 900} {
				expectWithin(t, asks(500, 900, 0, text), price, false)
			}
		}
	}
}

// G3: the chapter's example, and the document's.
func TestExamples(t *testing.T) {
	less := "less(lowest, 0.01)"
	expectTarget(t, asks(500, 900, 0, less), offered(300), 500, true)
	expectTarget(t, asks(400, 900, 0, less), offered(450), 449, true)
	expectTarget(t, asks(460, 900, 0, less), offered(450), 460, true)
	expectTarget(t, asks(400, 1000, 0, "else("+less+", 9.99)"), nil, 999, true)
	expectTarget(t, asks(400, 900, 0, "else("+less+", 9.99)"), nil, 900, true)
}

// G3: what a strategy tells is kept between Low and Ceiling.
func TestTargetIsKeptBetween(t *testing.T) {
	for _, x := range []struct{ floor, ceiling, least, want int }{
		{500, 900, 0, 700},
		{500, 900, 600, 700},
		{700, 700, 700, 700},
		{699, 701, 0, 700},
		{701, 900, 0, 701},
		{500, 900, 701, 701},
		{701, 900, 702, 702},
		{702, 900, 701, 702},
		{500, 900, 900, 900},
		{500, 699, 0, 699},
		{500, 699, 699, 699},
		{1, 1, 0, 1},
		{1, most, 0, 700},
		{1, most, most, most},
		{most, most, 0, most},
	} {
		for _, text := range []string{"lowest", "7.00", "less(second, 1.00)", "else(from(z), from(a))"} {
			expectTarget(t, asks(x.floor, x.ceiling, x.least, text), offered(700, 800), x.want, true)
		}
	}
	// An amount that is no price, 0 or below it, is told by a strategy too.
	for _, text := range []string{"0.00", "less(0.00, 5.00)", "less(lowest, 7.00)", "cut(lowest, 10000)", "cut(lowest, 100000)", "less(0.00, 10000000000.00)"} {
		expectTarget(t, asks(500, 900, 0, text), offered(700), 500, true)
		expectTarget(t, asks(1, 900, 0, text), offered(700), 1, true)
		expectTarget(t, asks(1, 900, 5, text), offered(700), 5, true)
	}
	expectTarget(t, plain(), offered(most), 900, true)
	expectTarget(t, asks(1, most, 0, "lowest"), offered(most), most, true)
	expectTarget(t, asks(1, most, 0, "lowest"), offered(1), 1, true)
}

// G3: the cooldown and the band are no matter of the target.
func TestTargetWithoutBand(t *testing.T) {
	for _, cooldown := range []int{0, 1, 300, longest} {
		for _, band := range []int{0, 1, 699, 701, most} {
			c := api.Config{Floor: 500, Ceiling: 900, Cooldown: cooldown, Band: band, Text: "lowest"}
			expectTarget(t, c, offered(700), 700, true)
			expectTarget(t, c, offered(300), 500, true)
		}
	}
}

// G3: a strategy that tells nothing.
func TestNoTarget(t *testing.T) {
	for _, text := range []string{"lowest", "second", "from(a)", "less(lowest, 0.01)", "cut(second, 5)", "min(1.00, lowest)", "max(lowest, 1.00)", "else(lowest, second)", "if(more(0), 5.00, lowest)"} {
		expectNothing(t, asks(500, 900, 0, text), nil)
		expectNothing(t, asks(500, 900, 600, text), []api.Offer{})
		expectNothing(t, asks(1, most, 0, text), nil)
	}
	expectNothing(t, asks(500, 900, 0, "second"), offered(700))
	expectNothing(t, asks(500, 900, 0, "from(c)"), offered(700, 800))
}

// G3: a strategy whose reckoning goes wrong, where it is reckoned at all.
func TestTargetBeyond(t *testing.T) {
	for _, l := range [][]api.Offer{nil, offered(700), offered(700, 800)} {
		for _, text := range []string{beyond, "less(less(0.00, 10000000000.00), 0.01)", "min(5.00, " + beyond + ")", "max(" + beyond + ", 5.00)", "else(" + beyond + ", 5.00)", "if(above(5.00, " + beyond + "), 5.00, 6.00)"} {
			expectNothing(t, asks(500, 900, 0, text), l)
			expectNothing(t, asks(1, most, 0, text), l)
		}
		expectTarget(t, asks(500, 900, 0, "else(6.00, "+beyond+")"), l, 600, true)
		expectTarget(t, asks(500, 900, 0, "if(more(8), "+beyond+", 6.00)"), l, 600, true)
	}
}

// G3: a config that is not right.
func TestTargetOfWrongConfigs(t *testing.T) {
	for _, n := range bounds() {
		if mayBe(n) || n[4] > 2 && n[4] < most {
			continue
		}
		expectNothing(t, of(n, "5.00"), nil)
	}
	for _, texts := range wrongTexts() {
		for _, text := range texts {
			expectNothing(t, asks(500, 900, 0, text), offered(700, 800))
			expectNothing(t, asks(500, 900, 0, text), nil)
		}
	}
}

// wrongOffers are offers that are not right, each list for one reason.
func wrongOffers() [][]api.Offer {
	twice := offered(700, 800, 750)
	twice[2].Seller = "a"
	l := [][]api.Offer{twice, slices.Repeat(offered(700), 2), offered(1, 2, 3, 4, 5, 6, 7, 8, 9), slices.Repeat(offered(700), 1000)}
	for _, price := range []int{0, -1, most + 1, math.MaxInt, math.MinInt} {
		l = append(l, offered(price), offered(700, price), offered(price, 700))
	}
	for _, name := range []string{"", "if", "lowest", "Bob", "7up", "a b", "abcdefghijklm", "b\xff", "\u00e9"} {
		l = append(l, []api.Offer{{Seller: name, Price: 700}}, append(offered(700), api.Offer{Seller: name, Price: 700}))
	}
	return l
}

// G3: offers that are not right, even where a strategy doesn't ask for them.
func TestTargetOfWrongOffers(t *testing.T) {
	for _, l := range wrongOffers() {
		for _, text := range []string{"lowest", "7.00", "from(a)", "else(lowest, 7.00)", "if(more(0), 7.00, 7.00)"} {
			expectNothing(t, asks(500, 900, 0, text), l)
		}
	}
	expectTarget(t, plain(), offered(701, 702, 703, 704, 705, 706, 707, 708), 701, true)
}

// maker makes configs and offers, as a short rule chooses.
type maker struct{ state uint32 }

// below is a number below n, which is at most 2^16.
func (m *maker) below(n int) int {
	m.state = m.state*1664525 + 1013904223
	return int(m.state>>16) * n >> 16
}

func (m *maker) amount() int {
	return []int{0, 1, most, m.below(1000), m.below(1000), 500, m.below(1<<16) * 15258789}[m.below(7)]
}

// expr is an expression's text, with at most so many calls in one another.
func (m *maker) expr(deep int) string {
	if deep == 0 || m.below(5) == 0 {
		return []string{"lowest", "second", "from(" + string(rune('a'+m.below(9))) + ")", dec.Text(m.amount())}[m.below(4)]
	}
	arg := m.expr(deep - 1)
	switch m.below(7) {
	case 0:
		return "less(" + arg + "," + dec.Text(m.amount()) + ")"
	case 1:
		return "cut(" + arg + ", " + dec.Number(m.below(1<<16)) + ")"
	case 2:
		return "if(more(" + dec.Number(m.below(9)) + ")," + arg + "," + m.expr(deep-1) + ")"
	case 3:
		return "if(above(" + m.expr(deep-1) + "," + arg + ")," + arg + " ," + m.expr(deep-1) + ")"
	}
	return []string{"min(", "max(", "else( "}[m.below(3)] + arg + ", " + m.expr(deep-1) + ")"
}

// config is one that is right, if its text is.
func (m *maker) config() api.Config {
	floor := max(1, m.amount())
	ceiling := min(floor+m.amount(), most)
	return api.Config{Floor: floor, Ceiling: ceiling, Map: min(m.amount(), ceiling), Cooldown: m.below(10), Band: m.amount(), Text: m.expr(1 + m.below(5))}
}

// offers are up to 8 ones, often as low as others.
func (m *maker) offers() []api.Offer {
	var l []api.Offer
	for range m.below(9) {
		l = append(l, api.Offer{Price: max(1, m.amount())})
	}
	for i := range l {
		l[i].Seller = string(rune('a' + i))
	}
	return l
}

// made goes through configs and offers that are made.
func made(times int, do func(c api.Config, l []api.Offer)) {
	for seed := range times {
		m := &maker{uint32(seed) * 2654435761}
		do(m.config(), m.offers())
	}
}

// within is a number, or that one of two others beyond which it is.
func within(n, low, high int) int {
	l := []int{n, low, high}
	slices.Sort(l)
	return l[1]
}

// G1, G3: made texts, right and spoilt, against what parse, tree and value tell.
func TestMade(t *testing.T) {
	kinds := map[string]int{}
	made(20000, func(c api.Config, l []api.Offer) {
		if len(l) == 3 && len(c.Text) > 3 {
			c.Text = c.Text[:len(c.Text)-1-len(c.Text)%3]
		}
		x, want, _ := parse.Parse(c.Text)
		if want == api.OK && !tree.Right(x) {
			want = api.ErrArg
		}
		expectCheck(t, c, want)
		n, is, err := value.Eval(x, l)
		kinds[fmt.Sprint(want, is, err)]++
		if want != api.OK || !is {
			expectNothing(t, c, l)
			return
		}
		expectTarget(t, c, l, within(n, max(c.Floor, c.Map), c.Ceiling), true)
	})
	for _, kind := range []string{fmt.Sprint(api.OK, true, api.OK), fmt.Sprint(api.OK, false, api.OK), fmt.Sprint(api.OK, false, api.ErrRange), fmt.Sprint(api.ErrSyntax, false, api.ErrArg)} {
		if kinds[kind] < 100 {
			t.Errorf("%s came only %d times", kind, kinds[kind])
		}
	}
}

// G4: a target is within, the order of offers changes nothing, and with a higher
// floor, or map, it is no lower.
func TestTheorem(t *testing.T) {
	raised := 0
	made(5000, func(c api.Config, l []api.Offer) {
		n, is := Target(c, l)
		if is {
			expectWithin(t, c, n, true)
		}
		for i := range l {
			other := slices.Concat(l[i:], l[:i])
			expectTarget(t, c, other, n, is)
			slices.Reverse(other)
			expectTarget(t, c, other, n, is)
		}
		for _, by := range []int{1, 7, 400, most / 3} {
			higher, shown := c, c
			higher.Floor = min(c.Floor+by, c.Ceiling)
			shown.Map = min(c.Map+by, c.Ceiling)
			for _, d := range []api.Config{higher, shown} {
				m, isToo := Target(d, l)
				if isToo != is || m < n {
					t.Errorf("Target(%s) = %d, %t; but of %s %d, %t", brief(d), m, isToo, brief(c), n, is)
				}
				if m > n {
					raised++
				}
			}
		}
	})
	if raised < 1000 {
		t.Errorf("only %d targets were raised", raised)
	}
}

// G4: all orders of some offers.
func TestOrders(t *testing.T) {
	l := offered(700, 650, 650, 900)
	for _, text := range []string{"lowest", "second", "from(c)", "less(max(second, from(d)), 0.01)", "if(above(from(a), second), from(d), 1.00)", beyond} {
		c := asks(1, most, 0, text)
		n, is := Target(c, l)
		for code := range 4 * 3 * 2 {
			rest := slices.Clone(l)
			var other []api.Offer
			for size := 4; size > 0; size-- {
				i := code % size
				code /= size
				other = append(other, rest[i])
				rest = slices.Delete(rest, i, i+1)
			}
			expectTarget(t, c, other, n, is)
		}
	}
}

// R3: what is handed in is not written into, nor is what stands behind it.
func TestArgumentsStay(t *testing.T) {
	made(500, func(c api.Config, l []api.Offer) {
		room := append(slices.Clone(l), offered(3, 2, 1)...)
		before := slices.Clone(room)
		Target(c, room[:len(l)])
		if !slices.Equal(room, before) {
			t.Errorf("Target(%s) made %v of %v", brief(c), room, before)
		}
	})
}

// R4, P1: the same is answered for the same, whatever was asked between.
func TestSameForSame(t *testing.T) {
	for range 3 {
		expectTarget(t, plain(), offered(700), 700, true)
		expectNothing(t, plain(), nil)
		expectNothing(t, asks(500, 900, 0, beyond), offered(700))
		expectNothing(t, asks(500, 900, 0, "@"), offered(700))
		expectCheck(t, asks(500, 900, 0, "@"), api.ErrToken)
		expectCheck(t, plain(), api.OK)
		expectNothing(t, plain(), offered(0))
		expectWithin(t, plain(), 900, true)
		expectWithin(t, asks(901, 900, 0, "lowest"), 900, false)
	}
}

// P1: all short texts of some bytes end, with one of the errors that there are.
func TestAnyBytes(t *testing.T) {
	var try func(text string, more int)
	try = func(text string, more int) {
		c := asks(500, 900, 0, text)
		_, want, _ := parse.Parse(text)
		expectCheck(t, c, want)
		if want != api.OK {
			expectNothing(t, c, offered(700))
			expectWithin(t, c, 700, false)
		}
		if more == 0 {
			return
		}
		for _, b := range []byte("l5.0, (\x00\xff\n") {
			try(text+string([]byte{b}), more-1)
		}
	}
	try("", 4)
}
