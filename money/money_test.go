package money

import (
	"math"
	"math/big"
	"slices"
	"testing"

	"haggler/api"
)

const most = api.MaxMoney

// edges are numbers at which a bound, a sign or the 64 bits end, and ordinary
// ones between them.
func edges() []int {
	l := []int{math.MinInt, math.MinInt + 1, math.MinInt / 2, math.MaxInt / 2, math.MaxInt - 1, math.MaxInt}
	for _, a := range []int{0, 7, 250, 999, 10000, 12345, 100000, 1000000, 1 << 31, 1 << 32, 3037000500, most / 3, most / 2, most, api.MaxTick / 2, api.MaxTick} {
		for _, by := range []int{-1, 0, 1} {
			l = append(l, a+by, -a-by)
		}
	}
	slices.Sort(l)
	return slices.Compact(l)
}

// parts are parts of an amount, right ones and others.
func parts() []int {
	l := []int{math.MinInt, math.MaxInt}
	for _, bp := range []int{0, 1, 3, 250, 3333, 5000, 9999, 10000, 10001, 90000, 99999, 100000, 100001} {
		l = append(l, bp, -bp)
	}
	return l
}

func large(a int) *big.Int { return big.NewInt(int64(a)) }

func rightly(n *big.Int) bool { return n.CmpAbs(large(most)) <= 0 }

// wanted is what a call is to answer, whose number without bounds is n.
func wanted(n *big.Int, may bool) (int, api.Errno) {
	if !may || !rightly(n) {
		return 0, api.ErrRange
	}
	return int(n.Int64()), api.OK
}

// A1
func TestRight(t *testing.T) {
	for _, x := range []struct {
		a    int
		want bool
	}{{0, true}, {1, true}, {-1, true}, {most, true}, {-most, true}, {most + 1, false}, {-most - 1, false}, {math.MaxInt, false}, {math.MinInt, false}} {
		if got := Right(x.a); got != x.want {
			t.Errorf("Right(%d) = %v", x.a, got)
		}
	}
}

// A1
func TestSumsByHand(t *testing.T) {
	calls := map[string]func(a, b int) (int, api.Errno){"Add": Add, "Sub": Sub, "Times": Times}
	for _, x := range []struct {
		call    string
		a, b    int
		want    int
		wantErr api.Errno
	}{
		{"Add", 450, 49, 499, api.OK},
		{"Add", 450, -451, -1, api.OK},
		{"Add", most - 1, 1, most, api.OK},
		{"Add", most, 1, 0, api.ErrRange},
		{"Add", -most, -1, 0, api.ErrRange},
		{"Add", most + 1, -1, 0, api.ErrRange},
		{"Add", -1, most + 1, 0, api.ErrRange},
		{"Add", math.MinInt, math.MinInt, 0, api.ErrRange},
		{"Sub", 450, 1, 449, api.OK},
		{"Sub", 1, 450, -449, api.OK},
		{"Sub", -most, 1, 0, api.ErrRange},
		{"Sub", most, most, 0, api.OK},
		{"Sub", most + 1, 1, 0, api.ErrRange},
		{"Sub", 1, most + 1, 0, api.ErrRange},
		{"Sub", math.MinInt, math.MinInt, 0, api.ErrRange},
		{"Times", 499, 3, 1497, api.OK},
		{"Times", -499, 3, -1497, api.OK},
		{"Times", 0, -most, 0, api.OK},
		{"Times", -1, most, -most, api.OK},
		{"Times", 2, most/2 + 1, 0, api.ErrRange},
		{"Times", 0, most + 1, 0, api.ErrRange},
		{"Times", most + 1, 0, 0, api.ErrRange},
		{"Times", 1 << 32, 1 << 32, 0, api.ErrRange},
		{"Times", math.MinInt, -1, 0, api.ErrRange},
	} {
		if got, err := calls[x.call](x.a, x.b); got != x.want || err != x.wantErr {
			t.Errorf("%s(%d, %d) = %d, %d", x.call, x.a, x.b, got, err)
		}
	}
}

// A1: at every pair of edges, as numbers without bounds tell it.
func TestSumsAtEdges(t *testing.T) {
	for _, x := range []struct {
		name  string
		call  func(a, b int) (int, api.Errno)
		exact func(z, a, b *big.Int) *big.Int
	}{{"Add", Add, (*big.Int).Add}, {"Sub", Sub, (*big.Int).Sub}, {"Times", Times, (*big.Int).Mul}} {
		for _, a := range edges() {
			for _, b := range edges() {
				n := x.exact(new(big.Int), large(a), large(b))
				want, wantErr := wanted(n, rightly(large(a)) && rightly(large(b)))
				if got, err := x.call(a, b); got != want || err != wantErr {
					t.Errorf("%s(%d, %d) = %d, %d", x.name, a, b, got, err)
				}
			}
		}
	}
}

// A2
func TestPartByHand(t *testing.T) {
	for _, x := range []struct {
		a, bp   int
		up      bool
		want    int
		wantErr api.Errno
	}{
		{999, 250, false, 24, api.OK},
		{999, 250, true, 25, api.OK},
		{-999, 250, false, -25, api.OK},
		{-999, 250, true, -24, api.OK},
		{999, -250, false, -25, api.OK},
		{-999, -250, true, 25, api.OK},
		{400, 250, false, 10, api.OK},
		{400, 250, true, 10, api.OK},
		{-400, 250, false, -10, api.OK},
		{-400, 250, true, -10, api.OK},
		{1, 1, false, 0, api.OK},
		{1, 1, true, 1, api.OK},
		{0, 100000, true, 0, api.OK},
		{most / 10, 100000, true, most, api.OK},
		{most/10 + 1, 100000, false, 0, api.ErrRange},
		{most, 10001, false, 0, api.ErrRange},
		{most, -10001, true, 0, api.ErrRange},
		{0, 100001, false, 0, api.ErrRange},
		{0, -100001, true, 0, api.ErrRange},
		{most + 1, 0, false, 0, api.ErrRange},
		{-most - 1, 0, true, 0, api.ErrRange},
		{math.MinInt, math.MinInt, true, 0, api.ErrRange},
	} {
		if got, err := Part(x.a, x.bp, x.up); got != x.want || err != x.wantErr {
			t.Errorf("Part(%d, %d, %v) = %d, %d", x.a, x.bp, x.up, got, err)
		}
	}
}

// exactPart is a part of an amount, as numbers without bounds tell it.
func exactPart(a, bp int, up bool) *big.Int {
	n := new(big.Int).Mul(large(a), large(bp))
	// Div goes to the whole number below, for a divisor above 0.
	down, rest := new(big.Int).DivMod(n, large(10000), new(big.Int))
	if up && rest.Sign() != 0 {
		down.Add(down, large(1))
	}
	return down
}

// partMayBe tells whether neither a part nor what it comes to is beyond.
func partMayBe(a, bp int, up bool) bool {
	return -api.MaxBp <= bp && bp <= api.MaxBp && rightly(exactPart(a, bp, up))
}

// A2: at all edges.
func TestPartAtEdges(t *testing.T) {
	for _, a := range edges() {
		for _, bp := range parts() {
			for _, up := range []bool{false, true} {
				may := rightly(large(a)) && partMayBe(a, bp, up)
				want, wantErr := wanted(exactPart(a, bp, up), may)
				if got, err := Part(a, bp, up); got != want || err != wantErr {
					t.Errorf("Part(%d, %d, %v) = %d, %d", a, bp, up, got, err)
				}
			}
		}
	}
}

// A3
func TestClamp(t *testing.T) {
	for _, x := range [][4]int{
		{5, 7, 9, 7},
		{7, 7, 9, 7},
		{8, 7, 9, 8},
		{9, 7, 9, 9},
		{10, 7, 9, 9},
		{-5, -9, -7, -7},
		{5, 5, 5, 5},
		// Low is above high: low is told, whatever a is.
		{1, 9, 7, 9},
		{8, 9, 7, 9},
		{10, 9, 7, 9},
		// Clamp is of all numbers, right ones or not.
		{math.MaxInt, 0, math.MaxInt, math.MaxInt},
		{math.MinInt, math.MinInt, 0, math.MinInt},
		{math.MaxInt, math.MinInt, most + 1, most + 1},
	} {
		if got := Clamp(x[0], x[1], x[2]); got != x[3] {
			t.Errorf("Clamp(%d, %d, %d) = %d", x[0], x[1], x[2], got)
		}
	}
}

// A3
func TestLater(t *testing.T) {
	const end = api.MaxTick
	for _, x := range [][3]int{
		{0, 0, 0},
		{5, 7, 12},
		{-1, 7, 7},
		{5, -1, 5},
		{-5, -7, 0},
		{end - 1, 0, end - 1},
		{end - 1, 1, end},
		{end - 1, 2, end},
		{end / 2, end / 2, end},
		{end, end, end},
		{end + 1, 0, end},
		{0, end + 1, end},
		{end + 1, -1, end},
		{math.MaxInt, math.MaxInt, end},
		{math.MaxInt, math.MinInt, end},
		{math.MinInt, math.MinInt, 0},
		{math.MinInt, 3, 3},
	} {
		if got := Later(x[0], x[1]); got != x[2] {
			t.Errorf("Later(%d, %d) = %d", x[0], x[1], got)
		}
	}
}

// A4
func TestAddedIsTakenAwayAgain(t *testing.T) {
	for _, a := range edges() {
		for _, b := range edges() {
			if !Right(a) || !Right(b) || !rightly(new(big.Int).Add(large(a), large(b))) {
				continue
			}
			sum, _ := Add(a, b)
			if back, err := Sub(sum, b); back != a || err != api.OK {
				t.Errorf("Sub(Add(%d, %d), %d) = %d, %d", a, b, b, back, err)
			}
		}
	}
}

// A4
func TestPartsAreTheWhole(t *testing.T) {
	for _, a := range edges() {
		for _, bp := range parts() {
			for _, up := range []bool{false, true} {
				if !Right(a) || !partMayBe(a, bp, up) || !partMayBe(a, 10000-bp, !up) {
					continue
				}
				one, _ := Part(a, bp, up)
				left, _ := Part(a, 10000-bp, !up)
				if both, err := Add(one, left); both != a || err != api.OK {
					t.Errorf("Part(%d, %d, %v) = %d, and what is left = %d", a, bp, up, one, left)
				}
			}
		}
	}
}

// A4
func TestClampedIsClampedToItself(t *testing.T) {
	for _, a := range edges() {
		for _, low := range edges() {
			for _, high := range edges() {
				once := Clamp(a, low, high)
				if again := Clamp(once, low, high); again != once {
					t.Errorf("Clamp(%d, %d, %d) = %d, and again = %d", a, low, high, once, again)
				}
				if low <= high && (once < low || once > high) {
					t.Errorf("Clamp(%d, %d, %d) = %d", a, low, high, once)
				}
			}
		}
	}
}
