package pace

import (
	"math"
	"math/big"
	"slices"
	"strings"
	"testing"

	"haggler/api"
	"haggler/config"
)

const (
	most    = 1000000000000 // of a price
	end     = 1 << 40       // the last tick
	longest = 1 << 20       // of a config's cooldown
)

// plain is a config that is right: prices from 100 to 900, each for 10 ticks.
func plain() api.Config {
	return api.Config{Floor: 100, Ceiling: 900, Cooldown: 10, Band: 5, Text: "lowest"}
}

// wide is a config of any price, at any tick.
func wide() api.Config { return api.Config{Floor: 1, Ceiling: most, Text: "lowest"} }

// with is a config, changed.
func with(c api.Config, change func(c *api.Config)) api.Config {
	change(&c)
	return c
}

// paceOf is a pace of a ring, the last price of which is the last one.
func paceOf(at, swing int, ring ...int) api.Pace {
	return api.Pace{Last: ring[len(ring)-1], At: at, Ring: ring, Swing: swing}
}

// same tells whether two paces are the same.
func same(p, q api.Pace) bool {
	return p.Last == q.Last && p.At == q.At && p.Swing == q.Swing && slices.Equal(p.Ring, q.Ring)
}

// copied is a pace that shares nothing with another one.
func copied(p api.Pace) api.Pace {
	p.Ring = slices.Clone(p.Ring)
	return p
}

func expectRight(t *testing.T, p api.Pace, want bool) {
	t.Helper()
	if got := Right(p); got != want {
		t.Errorf("Right(%v) = %t; want %t", p, got, want)
	}
}

func expectReady(t *testing.T, cooldown int, p api.Pace, want int) {
	t.Helper()
	if got := Ready(api.Config{Cooldown: cooldown}, p); got != want {
		t.Errorf("Ready(cooldown %d; %v) = %d; want %d", cooldown, p, got, want)
	}
}

// expectDecide holds what Decide answers against what it is to answer.
func expectDecide(t *testing.T, c api.Config, p api.Pace, target, now int, want api.Pace, wantIs bool) {
	t.Helper()
	before := copied(p)
	if got, is := Decide(c, p, target, now); !same(got, want) || is != wantIs || !same(p, before) {
		t.Errorf("Decide(%v; %v; %d, %d) = %v, %t; want %v, %t", c, before, target, now, got, is, want, wantIs)
	}
}

// expectStays holds that nothing is decided, and the pace is as it was.
func expectStays(t *testing.T, c api.Config, p api.Pace, target, now int) {
	t.Helper()
	expectDecide(t, c, p, target, now, copied(p), false)
}

// numbers are some at which something begins, or ends.
func numbers() []int {
	return []int{math.MinInt, math.MinInt + 1, -end, -most, -1, 0, 1, 2, 6, 7, 99, 100, 900, longest, most - 1, most, most + 1, end - 1, end, end + 1, 2 * end, math.MaxInt - 1, math.MaxInt}
}

// rings are lists of up to so many of some numbers.
func rings(size int, of []int) [][]int {
	l := [][]int{nil}
	for from := 0; size > 0; size-- {
		to := len(l)
		for _, ring := range l[from:to] {
			for _, n := range of {
				l = append(l, append(slices.Clone(ring), n))
			}
		}
		from = to
	}
	return l
}

// mayBe tells whether a pace is right.
func mayBe(p api.Pace) bool {
	switch size := len(p.Ring); {
	case size == 0:
		return same(p, api.Pace{})
	case size > 3 || p.Ring[size-1] != p.Last || slices.Min(p.Ring) < 1 || slices.Max(p.Ring) > most:
		return false
	}
	return p.At >= 0 && p.At <= end && p.Swing >= 0 && p.Swing <= 6
}

// H1: paces, and such as are none.
func TestRightByHand(t *testing.T) {
	for _, p := range []api.Pace{
		{}, {Ring: []int{}}, {Ring: make([]int, 0, 5)},
		paceOf(0, 0, 1), paceOf(end, 6, most), paceOf(7, 0, 5, 9), paceOf(7, 3, 9, 5, 9), paceOf(7, 6, 9, 9, 9),
		paceOf(0, 6, 500), paceOf(0, 1, most, 1, most), paceOf(end, 0, 1, most, 1),
	} {
		expectRight(t, p, true)
	}
	for _, p := range []api.Pace{
		{Last: 1}, {At: 1}, {Swing: 1}, {Last: -1}, {At: -1}, {Swing: -1}, {Last: 500, At: 7, Swing: 1}, {Last: 500, Ring: []int{}},
		{Ring: []int{1}}, {Ring: []int{1, 2, 3}}, {Ring: []int{500}, At: 7}, paceOf(0, 0, 0), paceOf(0, 0, 0, 0, 0),
		paceOf(0, 0, -1), paceOf(0, 0, most+1), paceOf(0, 0, math.MaxInt), paceOf(0, 0, math.MinInt),
		{Last: 5, Ring: []int{9}}, {Last: 5, Ring: []int{5, 9}}, {Last: 5, Ring: []int{5, 5, 9}}, {Last: 5, Ring: []int{9, 5, 9}},
		paceOf(0, 0, 0, 5), paceOf(0, 0, 0, 5, 5), paceOf(0, 0, 5, 0, 5), paceOf(0, 0, -1, 5), paceOf(0, 0, 5, most+1, 5), paceOf(0, 0, math.MaxInt, 5, 5),
		paceOf(0, 0, 5, 5, 5, 5), paceOf(0, 0, 1, 2, 3, 4, 5), {Last: 5, Ring: slices.Repeat([]int{5}, 100000)},
		paceOf(-1, 0, 5), paceOf(end+1, 0, 5), paceOf(math.MinInt, 0, 5), paceOf(math.MaxInt, 0, 5),
		paceOf(0, -1, 5), paceOf(0, 7, 5), paceOf(0, math.MinInt, 5), paceOf(0, math.MaxInt, 5),
	} {
		expectRight(t, p, false)
	}
}

// H1: all paces of numbers at the edges.
func TestRightEdges(t *testing.T) {
	right := 0
	for _, ring := range rings(4, []int{0, 1, 500, most, most + 1}) {
		for _, last := range []int{-1, 0, 1, 500, most, most + 1} {
			for _, at := range numbers() {
				for _, swing := range []int{-1, 0, 1, 6, 7} {
					p := api.Pace{Last: last, At: at, Ring: ring, Swing: swing}
					if mayBe(p) {
						right++
					}
					expectRight(t, p, mayBe(p))
				}
			}
		}
	}
	if right < 1000 {
		t.Errorf("only %d paces are right", right)
	}
}

// H2: the examples, what is first, and what runs over.
func TestReadyByHand(t *testing.T) {
	for _, x := range []struct{ cooldown, at, swing, want int }{
		{4, 10, 0, 14}, {4, 10, 1, 18}, {4, 10, 2, 26}, {4, 10, 3, 42}, {4, 10, 4, 74}, {4, 10, 5, 138}, {4, 10, 6, 266},
		{4, 10, 7, 266}, {4, 10, 64, 266}, {4, 10, math.MaxInt, 266}, {4, 10, -1, 14}, {4, 10, -64, 14}, {4, 10, math.MinInt, 14},
		{0, 10, 6, 10}, {0, 0, 0, 0}, {-1, 10, 3, 10}, {math.MinInt, 10, 6, 10}, {math.MinInt / 64, 10, 6, 10}, {math.MinInt/64 - 1, 10, 6, 10},
		{4, -1, 0, 4}, {4, math.MinInt, 1, 8}, {4, end - 4, 0, end}, {4, end - 5, 0, end - 1}, {4, end - 3, 0, end}, {4, end, 0, end}, {4, math.MaxInt, 6, end},
		{longest, 7, 6, 7 + 64*longest}, {longest + 1, 7, 6, 71 + 64*longest},
		{1 << 34, 0, 6, end}, {1<<34 - 1, 0, 6, end - 64}, {end, 0, 0, end}, {end + 1, 0, 0, end}, {end, 0, 6, end},
		{1 << 57, 5, 6, end}, {1 << 58, 5, 6, end}, {1<<58 + 1, 5, 6, end}, {1 << 62, 5, 2, end}, {math.MaxInt, 5, 6, end}, {math.MaxInt, 5, 0, end}, {math.MaxInt - 7, 5, 3, end},
	} {
		expectReady(t, x.cooldown, paceOf(x.at, x.swing, 500), x.want)
		expectReady(t, x.cooldown, api.Pace{Last: -1, At: x.at, Swing: x.swing}, x.want)
		expectReady(t, x.cooldown, api.Pace{Last: math.MaxInt, At: x.at, Swing: x.swing}, x.want)
		expectReady(t, x.cooldown, api.Pace{At: x.at, Swing: x.swing}, 0)
		expectReady(t, x.cooldown, api.Pace{At: x.at, Ring: []int{500}, Swing: x.swing}, 0)
	}
	expectReady(t, 4, api.Pace{}, 0)
}

// tick is a number as the tick that is nearest to it.
func tick(n *big.Int) *big.Int {
	if n.Sign() < 0 {
		return big.NewInt(0)
	}
	if n.Cmp(big.NewInt(end)) > 0 {
		return big.NewInt(end)
	}
	return n
}

// readyOf is what Ready is to answer, by numbers that can't run over.
func readyOf(cooldown int, p api.Pace) int {
	if p.Last == 0 {
		return 0
	}
	times := []int64{1, 2, 4, 8, 16, 32, 64}[min(max(p.Swing, 0), 6)]
	by := new(big.Int).Mul(big.NewInt(int64(cooldown)), big.NewInt(times))
	sum := new(big.Int).Add(tick(big.NewInt(int64(p.At))), tick(by))
	return int(tick(sum).Int64())
}

// H2: numbers at their edges, each beside each; no config need be right.
func TestReadyNumbers(t *testing.T) {
	cooldowns := numbers()
	for bit := range 63 {
		cooldowns = append(cooldowns, 1<<bit-1, 1<<bit, 1<<bit+1, -1<<bit)
	}
	for _, cooldown := range cooldowns {
		for _, at := range numbers() {
			for _, swing := range append(numbers(), 3, 4, 5) {
				for _, last := range []int{math.MinInt, -1, 0, 1, 500, most + 1} {
					p := api.Pace{Last: last, At: at, Swing: swing}
					expectReady(t, cooldown, p, readyOf(cooldown, p))
				}
			}
		}
	}
}

// H2: but for its cooldown, a config is not asked for.
func TestReadyOfWrongConfigs(t *testing.T) {
	for _, c := range wrong() {
		if got, want := Ready(c, paceOf(10, 1, 500)), readyOf(c.Cooldown, paceOf(10, 1, 500)); got != want {
			t.Errorf("Ready(%v; 500 at 10) = %d; want %d", c, got, want)
		}
	}
}

// wrong are configs that may not be.
func wrong() []api.Config {
	return []api.Config{
		{}, {Text: "lowest"},
		with(plain(), func(c *api.Config) { c.Floor = 0 }), with(plain(), func(c *api.Config) { c.Floor = 901 }),
		with(plain(), func(c *api.Config) { c.Ceiling = most + 1 }), with(plain(), func(c *api.Config) { c.Ceiling = math.MaxInt }),
		with(plain(), func(c *api.Config) { c.Map = -1 }), with(plain(), func(c *api.Config) { c.Map = 901 }),
		with(plain(), func(c *api.Config) { c.Cooldown = -1 }), with(plain(), func(c *api.Config) { c.Cooldown = longest + 1 }),
		with(plain(), func(c *api.Config) { c.Cooldown = math.MinInt }), with(plain(), func(c *api.Config) { c.Cooldown = math.MaxInt }),
		with(plain(), func(c *api.Config) { c.Band = -1 }), with(plain(), func(c *api.Config) { c.Band = most + 1 }),
		with(plain(), func(c *api.Config) { c.Band = math.MinInt }), with(plain(), func(c *api.Config) { c.Band = math.MaxInt }),
		with(plain(), func(c *api.Config) { c.Text = "" }), with(plain(), func(c *api.Config) { c.Text = "@" }),
		with(plain(), func(c *api.Config) { c.Text = "more(1)" }), with(plain(), func(c *api.Config) { c.Text = strings.Repeat(" ", 2000) + "lowest" }),
	}
}

// H3: the first price; targets and ticks at the edges.
func TestDecideFirst(t *testing.T) {
	for _, p := range []api.Pace{{}, {Ring: []int{}}, {Ring: make([]int, 0, 9)}} {
		for _, now := range []int{0, 1, 7, longest, end - 1, end} {
			for _, target := range []int{100, 101, 500, 899, 900} {
				expectDecide(t, plain(), p, target, now, paceOf(now, 0, target), true)
			}
			for _, target := range []int{math.MinInt, -500, -1, 0, 1, 5, 99, 901, most, most + 1, math.MaxInt} {
				expectStays(t, plain(), p, target, now)
			}
		}
		for _, now := range []int{math.MinInt, -end, -1, end + 1, 2 * end, math.MaxInt} {
			expectStays(t, plain(), p, 500, now)
		}
	}
	least := with(plain(), func(c *api.Config) { c.Map = 300 })
	expectStays(t, least, api.Pace{}, 299, 0)
	expectDecide(t, least, api.Pace{}, 300, 0, paceOf(0, 0, 300), true)
	expectDecide(t, wide(), api.Pace{}, 1, 0, paceOf(0, 0, 1), true)
	expectDecide(t, wide(), api.Pace{}, most, end, paceOf(end, 0, most), true)
	// A first price is never near to none, however great the band.
	broad := with(wide(), func(c *api.Config) { c.Band = most })
	expectDecide(t, broad, api.Pace{}, 1, 0, paceOf(0, 0, 1), true)
	expectDecide(t, broad, api.Pace{}, most, 0, paceOf(0, 0, most), true)
}

// H3: nothing is decided too early.
func TestDecideReady(t *testing.T) {
	for swing := range 7 {
		p := paceOf(20, swing, 400, 500)
		ready := 20 + 10<<swing
		for _, now := range []int{math.MinInt, -1, 0, 19, 20, 21, 29, ready - 1, end + 1, math.MaxInt} {
			if now < ready || now > end {
				expectStays(t, plain(), p, 700, now)
			}
		}
		for _, now := range []int{ready, ready + 1, 2 * ready, end - 1, end} {
			expectDecide(t, plain(), p, 700, now, paceOf(now, 0, 400, 500, 700), true)
		}
	}
	always := with(plain(), func(c *api.Config) { c.Cooldown = 0 })
	expectStays(t, always, paceOf(20, 6, 500), 700, 19)
	expectDecide(t, always, paceOf(20, 6, 500), 700, 20, paceOf(20, 0, 500, 700), true)
	slow := with(plain(), func(c *api.Config) { c.Cooldown = longest })
	expectStays(t, slow, paceOf(5, 6, 500), 700, 64*longest+4)
	expectDecide(t, slow, paceOf(5, 6, 500), 700, 64*longest+5, paceOf(64*longest+5, 0, 500, 700), true)
}

// H3: ticks stop, and so what is decided near their end is ready at the last
// one, even if it was decided then.
func TestDecideAtTheEnd(t *testing.T) {
	for _, at := range []int{end - 9, end - 1, end} {
		expectStays(t, plain(), paceOf(at, 6, 500), 700, end-10)
		expectDecide(t, plain(), paceOf(at, 6, 500), 700, end, paceOf(end, 0, 500, 700), true)
		expectStays(t, plain(), paceOf(at, 6, 500), 700, end+1)
	}
}

// H3: a price stays while it is near to its target, and within the config.
func TestDecideBand(t *testing.T) {
	for _, band := range []int{0, 1, 2, 5, 50, 399} {
		c := with(plain(), func(c *api.Config) { c.Band = band })
		for _, target := range []int{500 - band, 500 - band/2, 500, 500 + band/2, 500 + band} {
			expectStays(t, c, paceOf(20, 0, 400, 500), target, 99)
		}
		for _, target := range []int{500 - band - 1, 500 + band + 1} {
			expectDecide(t, c, paceOf(20, 0, 400, 500), target, 99, paceOf(99, 0, 400, 500, target), true)
		}
	}
	far := with(wide(), func(c *api.Config) { c.Band = most - 1 })
	expectStays(t, far, paceOf(0, 0, 1), most, 99)
	expectStays(t, far, paceOf(0, 0, most), 1, 99)
	far.Band--
	expectDecide(t, far, paceOf(0, 0, 1), most, 99, paceOf(99, 0, 1, most), true)
	expectDecide(t, far, paceOf(0, 0, most), 1, 99, paceOf(99, 0, most, 1), true)
	// A last price that a new config does not allow may not stay.
	for _, x := range [][2]int{{99, 100}, {99, 104}, {1, 100}, {901, 900}, {905, 900}, {most, 900}} {
		for _, band := range []int{0, 5, most} {
			c := with(plain(), func(c *api.Config) { c.Band = band })
			expectDecide(t, c, paceOf(20, 0, x[0]), x[1], 30, paceOf(30, 0, x[0], x[1]), true)
			expectStays(t, c, paceOf(20, 0, x[0]), x[1], 29)
			expectStays(t, c, paceOf(20, 0, x[0]), x[0], 30)
		}
	}
	// The map is a guard, too.
	c := with(plain(), func(c *api.Config) { c.Map = 300 })
	expectDecide(t, c, paceOf(20, 0, 299), 300, 30, paceOf(30, 0, 299, 300), true)
	expectStays(t, c, paceOf(20, 0, 300), 301, 30)
}

// H3: the last three prices are kept.
func TestDecideRing(t *testing.T) {
	for _, x := range [][2][]int{
		{{400}, {400, 700}}, {{400, 500}, {400, 500, 700}}, {{300, 400, 500}, {400, 500, 700}},
		{{700, 400, 500}, {400, 500, 700}}, {{500, 500, 500}, {500, 500, 700}}, {{700, 700, 500}, {700, 500, 700}}, {{1, most, 3}, {most, 3, 700}},
	} {
		expectDecide(t, plain(), paceOf(20, 0, x[0]...), 700, 30, paceOf(30, 0, x[1]...), true)
	}
}

// H3: what swings, and what does not.
func TestDecideSwing(t *testing.T) {
	for swing := range 7 {
		after := min(swing+1, 6)
		expectDecide(t, plain(), paceOf(0, swing, 500, 400, 500), 400, 640, paceOf(640, after, 400, 500, 400), true)
		expectDecide(t, plain(), paceOf(0, swing, most, 400, most), 400, 640, paceOf(640, after, 400, most, 400), true)
		expectDecide(t, plain(), paceOf(0, swing, 1, 100, 1), 100, 640, paceOf(640, after, 100, 1, 100), true)
		for _, ring := range [][]int{{500}, {400}, {400, 500}, {500, 400}, {300, 400, 500}, {500, 400, 300}, {500, 300, 500}, {400, 500, 300}, {600, 600, 600}, {500, 500, 300}, {400, 400, 500}, {500, 401, 500}} {
			p := paceOf(0, swing, ring...)
			target := 400
			if p.Last == target {
				target = 500
			}
			want := append(slices.Clone(ring), target)
			expectDecide(t, plain(), p, target, 640, paceOf(640, 0, want[max(0, len(want)-3):]...), true)
		}
	}
}

// H3: configs and paces that are not right decide nothing.
func TestDecideWrong(t *testing.T) {
	for _, c := range wrong() {
		for _, p := range []api.Pace{{}, paceOf(20, 0, 500), paceOf(20, 2, 400, 500, 400)} {
			for _, target := range []int{0, 300, 500, 900} {
				expectStays(t, c, p, target, 99)
				expectStays(t, c, p, target, end)
			}
		}
	}
	for _, p := range []api.Pace{
		{Last: 500}, {Last: 500, At: 20}, {At: 1}, {Swing: 1}, {At: -1}, {Ring: []int{500}}, {Ring: []int{400, 500}, At: 20},
		{Last: 500, At: 20, Ring: []int{400}}, {Last: 500, At: 20, Ring: []int{500, 400}}, {Last: 400, Ring: []int{400, 500, 450}},
		paceOf(20, 0, 1, 2, 3, 4), paceOf(20, 0, 0, 500), paceOf(20, 0, most+1, 500), paceOf(20, 0, 0), paceOf(20, 0, -5), paceOf(20, 0, most+1),
		paceOf(-1, 0, 500), paceOf(end+1, 0, 500), paceOf(20, -1, 500), paceOf(20, 7, 500), paceOf(math.MinInt, math.MinInt, math.MinInt), paceOf(math.MaxInt, math.MaxInt, math.MaxInt),
	} {
		for _, now := range []int{0, 21, 30, 99, 10000, end} {
			expectStays(t, plain(), p, 700, now)
			expectStays(t, wide(), p, 700, now)
		}
	}
}

// decided is what Decide is to answer.
func decided(c api.Config, p api.Pace, target, now int) (api.Pace, bool) {
	if config.Check(c) != api.OK || !mayBe(p) || !config.Within(c, target) || now < 0 || now > end || now < readyOf(c.Cooldown, p) {
		return p, false
	}
	apart := max(p.Last-target, target-p.Last)
	if p.Last == target || config.Within(c, p.Last) && apart <= c.Band {
		return p, false
	}
	var swing int
	if len(p.Ring) == 3 && [3]int(p.Ring) == [3]int{p.Last, target, p.Last} {
		swing = []int{1, 2, 3, 4, 5, 6, 6}[p.Swing]
	}
	var ring []int
	for _, price := range append(slices.Clone(p.Ring), target) {
		ring = append(ring, price)
		if len(ring) > 3 {
			ring = ring[1:]
		}
	}
	return api.Pace{Last: target, At: now, Ring: ring, Swing: swing}, true
}

// maker makes configs and paces, as a short rule chooses.
type maker struct{ state uint32 }

// below is a number below n, which is at most 2^16.
func (m *maker) below(n int) int {
	m.state = m.state*1664525 + 1013904223
	return int(m.state>>16) * n >> 16
}

// one is one of some numbers.
func (m *maker) one(of ...int) int { return of[m.below(len(of))] }

// odd is a number, seldom another one, which is likely wrong.
func (m *maker) odd(n, other int) int {
	if m.below(40) == 0 {
		return other
	}
	return n
}

func (m *maker) config() api.Config {
	return api.Config{
		Floor: m.odd(m.one(1, 2, 3, 3, 3, 4), 0), Ceiling: m.odd(m.one(9, 9, 10, most), 2), Map: m.odd(m.one(0, 0, 4, 5), -1),
		Cooldown: m.odd(m.one(0, 1, 4, 4, longest), -1), Band: m.odd(m.one(0, 0, 1, 2, most), -1), Text: []string{"lowest", "lowest", "lowest", "5.00", "@"}[m.below(5)],
	}
}

// price is one of few, so that many are the same, or swing.
func (m *maker) price() int { return m.odd(m.one(3, 3, 4, 5, 5, 9, 10, most), m.one(0, 1, most+1)) }

func (m *maker) pace() api.Pace {
	var ring []int
	for range m.odd(m.one(0, 1, 2, 3, 3, 3), 4) {
		ring = append(ring, m.price())
	}
	if len(ring) == 0 {
		return api.Pace{At: m.odd(0, 1), Swing: m.odd(0, 1)}
	}
	if len(ring) == 3 && m.below(2) == 0 {
		ring[2] = ring[0]
	}
	p := paceOf(m.odd(m.one(0, 5, 5, 20, end-3), -1), m.odd(m.one(0, 0, 1, 3, 6), 7), ring...)
	p.Last = m.odd(p.Last, m.price())
	if m.below(2) == 0 {
		p.Ring = append(make([]int, 0, 9), ring...)
	}
	return p
}

func (m *maker) now() int {
	return m.odd(m.one(5, 9, 20, 24, 100, 300, end-3, end), m.one(-1, 0, end+1))
}

// made goes through configs and paces that are made, right ones and others.
func made(times int, do func(m *maker, c api.Config, p api.Pace)) {
	for seed := range times {
		m := &maker{uint32(seed) * 2654435761}
		do(m, m.config(), m.pace())
	}
}

// H3: what is made, against another way to reckon it; H4: what is decided is
// right, and within.
func TestDecideMade(t *testing.T) {
	times, swung := 0, 0
	made(100000, func(m *maker, c api.Config, p api.Pace) {
		target, now := m.price(), m.now()
		want, is := decided(c, p, target, now)
		expectDecide(t, c, p, target, now, want, is)
		if !is {
			return
		}
		times++
		swung += min(want.Swing, 1)
		expectRight(t, want, true)
		if !config.Within(c, want.Last) {
			t.Errorf("Decide(%v; %v; %d, %d) = %v: not within", c, p, target, now, want)
		}
	})
	if times < 10000 || swung < 500 {
		t.Errorf("only %d were decided, %d swung", times, swung)
	}
}

// H4: along rows of targets, under one config: two prices that are decided one
// behind the other are a cooldown apart, and unlike; who asks for one twice is
// answered once.
func TestRowsOfTargets(t *testing.T) {
	for seed := range 300 {
		m := &maker{uint32(seed) * 2654435761}
		c := api.Config{Floor: 3, Ceiling: 10, Cooldown: m.one(0, 1, 4, 30), Band: m.one(0, 0, 1, 2), Text: "lowest"}
		var p api.Pace
		now := 0
		for range 300 {
			now += m.below(9)
			target := m.one(3, 4, 5, 9, 10)
			q, is := Decide(c, p, target, now)
			want, wantIs := decided(c, p, target, now)
			if !same(q, want) || is != wantIs || !Right(q) {
				t.Fatalf("Decide(%v; %v; %d, %d) = %v, %t; want %v, %t", c, p, target, now, q, is, want, wantIs)
			}
			if is && p.Last != 0 && (q.At-p.At < c.Cooldown || q.Last == p.Last) {
				t.Fatalf("%v came behind %v, with the cooldown %d", q, p, c.Cooldown)
			}
			if is {
				expectStays(t, c, q, target, now)
				expectStays(t, c, q, target, now+10000)
			}
			p = q
		}
	}
}

// H4: prices that swing to and fro are decided ever more seldom, till the
// cooldown is 64 times what it was; another price ends that.
func TestSwingToAndFro(t *testing.T) {
	c := with(plain(), func(c *api.Config) { c.Cooldown = 3 })
	var p api.Pace
	var ticks []int
	for now := range 2000 {
		target := 300
		if p.Last == 300 {
			target = 600
		}
		var is bool
		if p, is = Decide(c, p, target, now); is {
			ticks = append(ticks, now)
		}
	}
	// The fourth price is the first one that swung.
	want := []int{0, 3, 6, 9, 15, 27, 51, 99, 195, 387, 579, 771, 963, 1155, 1347, 1539, 1731, 1923}
	if !slices.Equal(ticks, want) {
		t.Errorf("prices that swing were decided at %v; want %v", ticks, want)
	}
	p, is := Decide(c, p, 450, p.At+192)
	if !is || p.Swing != 0 || Ready(c, p) != p.At+3 {
		t.Errorf("behind prices that swung there is %v, %t, ready at %d", p, is, Ready(c, p))
	}
}

// R3: what stands behind a ring's length is not written into, and what comes
// out shares nothing with what was handed in, nor with another answer.
func TestMemory(t *testing.T) {
	for size := range 4 {
		room := []int{400, 450, 500, 1, 2, 3, 4, 5, 6}
		before := slices.Clone(room)
		p := api.Pace{Ring: room[:size]}
		if size > 0 {
			p = paceOf(0, 0, room[:size]...)
		}
		one, isOne := Decide(plain(), p, 700, 50)
		two, isTwo := Decide(plain(), p, 800, 50)
		if !isOne || !isTwo || !slices.Equal(room, before) {
			t.Fatalf("Decide made %v of %v: %v, %v", room, before, one, two)
		}
		wantTwo := copied(two)
		for _, ring := range [][]int{room, one.Ring[:cap(one.Ring)]} {
			for i := range ring {
				ring[i] = -7
			}
		}
		if !same(two, wantTwo) {
			t.Errorf("writing into what was handed in, or another answer, made %v of %v", two, wantTwo)
		}
		for i := range two.Ring[:cap(two.Ring)] {
			two.Ring[:cap(two.Ring)][i] = -8
		}
		if slices.Contains(room, -8) || slices.Contains(one.Ring[:cap(one.Ring)], -8) {
			t.Errorf("writing into an answer made %v, %v", room, one)
		}
	}
}

// R4, P1: the same is answered for the same, whatever was asked between.
func TestSameForSame(t *testing.T) {
	for range 3 {
		expectDecide(t, plain(), api.Pace{}, 500, 7, paceOf(7, 0, 500), true)
		expectStays(t, plain(), paceOf(7, 0, 500), 700, 16)
		expectDecide(t, plain(), paceOf(7, 0, 500), 700, 17, paceOf(17, 0, 500, 700), true)
		expectStays(t, wrong()[0], api.Pace{}, 500, 7)
		expectReady(t, 4, paceOf(10, 1, 500), 18)
		expectReady(t, 4, api.Pace{}, 0)
		expectRight(t, paceOf(10, 1, 500), true)
		expectRight(t, paceOf(10, 7, 500), false)
	}
}
