package sum

import (
	"math"
	"strings"
	"testing"
)

// divisor is x^16 + x^12 + x^5 + 1, from the highest power on: of the same sum
// told as a division.
const divisor = "10001000000100001"

// divided is a text's sum by long division, bit by bit: what is left of the
// text with 16 noughts behind it, the first 16 bits of all that turned round.
func divided(s string) int {
	var bits []byte
	for _, b := range []byte(s + "\x00\x00") {
		for place := 7; place >= 0; place-- {
			bits = append(bits, b>>place&1)
		}
	}
	for i := range 16 {
		bits[i] ^= 1
	}
	for i := 0; i+16 < len(bits); i++ {
		if bits[i] == 0 {
			continue
		}
		for j := range len(divisor) {
			bits[i+j] ^= divisor[j] - '0'
		}
	}
	n := 0
	for _, b := range bits[len(bits)-16:] {
		n = n*2 + int(b)
	}
	return n
}

// patterned is a text of so many bytes, all kinds of them, as a short rule
// makes them.
func patterned(size, seed int) string {
	b := make([]byte, size)
	state := uint32(seed)
	for i := range b {
		state = state*1664525 + 1013904223
		b[i] = byte(state >> 24)
	}
	return string(b)
}

// texts are ordinary texts and others: runes of several bytes, bytes that are
// no runes, noughts at both ends.
func texts() []string {
	l := []string{
		"", "A", "a:", "123456789", "3 7 -1:a", "less(lowest, 0.01)",
		"\x00", "\x00\x00", "\x00a", "a\x00", "\x00\x00a\x00\x00", strings.Repeat("\x00", 40),
		"\xff", "\xff\xff", "\xff\xff\xff", "\x80", "\x7f", strings.Repeat("\xff", 40),
		"\n", "caf\u00e9", "\u0661\u20ac", "\U0001f600", "\xc3", "\xa9\xc3", "a\xf0\x9f\x98",
		strings.Repeat("A", 256),
	}
	for size := range 40 {
		l = append(l, patterned(size, size+1))
	}
	return append(l, patterned(2002, 7))
}

// C1
func TestOfByHand(t *testing.T) {
	for _, x := range []struct {
		s    string
		want int
	}{
		{"", 65535},
		{"123456789", 10673},
		{"A", 0xb915},
		{"\x00", 0xe1f0},
		{"\x00\x00", 0x1d0f},
		{"\xff", 0xff00},
		{"\xff\xff", 0},
		{"\xff\xff\x00", 0},
		{"\xff\xff\x01", 0x1021},
		{"\xff\xff\x02", 0x2042},
		{"\xff\xff\x80", 0x9188},
		{strings.Repeat("A", 256), 0xea0b},
	} {
		if got := Of(x.s); got != x.want {
			t.Errorf("Of(%q) = %#x", x.s, got)
		}
	}
}

// C1: of all texts of one byte and of two.
func TestOfAllShortTexts(t *testing.T) {
	for a := range 256 {
		one := string([]byte{byte(a)})
		if got := Of(one); got != divided(one) {
			t.Errorf("Of(%q) = %#x", one, got)
		}
		for b := range 256 {
			two := string([]byte{byte(a), byte(b)})
			if got := Of(two); got != divided(two) {
				t.Errorf("Of(%q) = %#x", two, got)
			}
		}
	}
}

// C1
func TestOfAsDivided(t *testing.T) {
	for _, s := range texts() {
		if got := Of(s); got != divided(s) {
			t.Errorf("Of(%q) = %#x", s, got)
		}
	}
}

// C1: of a text of as many bytes as a disk may have.
func TestOfLongText(t *testing.T) {
	s := patterned(1000000, 3)
	if got := Of(s); got != divided(s) {
		t.Errorf("Of(a long text) = %#x", got)
	}
}

// C1: the same for the same, and between 0 and 65535.
func TestOfAgain(t *testing.T) {
	for _, s := range texts() {
		n := Of(s)
		if n < 0 || n > math.MaxUint16 || Of(strings.Clone(s)) != n {
			t.Errorf("Of(%q) = %#x, then %#x", s, n, Of(strings.Clone(s)))
		}
	}
}

// C2
func TestBytesByHand(t *testing.T) {
	for _, x := range []struct {
		n    int
		want string
	}{
		{0, "\x00\x00"},
		{1, "\x00\x01"},
		{127, "\x00\x7f"},
		{128, "\x00\x80"},
		{255, "\x00\xff"},
		{256, "\x01\x00"},
		{10673, "\x29\xb1"},
		{32767, "\x7f\xff"},
		{32768, "\x80\x00"},
		{65280, "\xff\x00"},
		{65534, "\xff\xfe"},
		{65535, "\xff\xff"},
	} {
		if got := Bytes(x.n); got != x.want {
			t.Errorf("Bytes(%d) = %q", x.n, got)
		}
	}
}

// C2
func TestBytesOfAllSums(t *testing.T) {
	for n := range 1 << 16 {
		got := Bytes(n)
		if len(got) != 2 || int(got[0])*256+int(got[1]) != n {
			t.Errorf("Bytes(%d) = %q", n, got)
		}
	}
}

// C2
func TestBytesOfNoSum(t *testing.T) {
	for _, n := range []int{-1, -2, -128, -256, -65535, -65536, 65536, 65537, 65536 + 10673, 1 << 17, 1 << 31, 1 << 32, 1<<32 + 1, 1 << 48, math.MinInt, math.MinInt + 1, math.MaxInt - 1, math.MaxInt} {
		if got := Bytes(n); got != "" {
			t.Errorf("Bytes(%d) = %q", n, got)
		}
	}
}

// turned is the text with two bytes put to it by exclusive or, from a place on;
// of a change below 256 the one at that place stays.
func turned(s string, at, change int) string {
	b := []byte(s)
	b[at] ^= byte(change >> 8)
	b[at+1] ^= byte(change)
	return string(b)
}

// C3: one byte at every place of each text, as every other one.
func TestOneByteIsTold(t *testing.T) {
	for _, s := range texts() {
		if len(s) > 256 {
			continue
		}
		n := Of(s)
		for at := range len(s) {
			for change := 1; change < 256; change++ {
				b := []byte(s)
				b[at] ^= byte(change)
				if Of(string(b)) == n {
					t.Errorf("Of(%q) = Of(%q)", s, b)
				}
			}
		}
	}
}

// C3: two bytes at every place of a text, as every other two.
func TestTwoBytesSideBySideAreTold(t *testing.T) {
	for _, s := range []string{"ab", "\x00\x00\x00", "\xff\xff\xff", "3 7 -1:a", "\u20ac 4.50", patterned(12, 5)} {
		n := Of(s)
		for at := range len(s) - 1 {
			for change := 1; change <= math.MaxUint16; change++ {
				if other := turned(s, at, change); Of(other) == n {
					t.Errorf("Of(%q) = Of(%q)", s, other)
				}
			}
		}
	}
}

// C3: two bytes of a long text, at its beginning, its middle and its end.
func TestTwoBytesOfLongTextAreTold(t *testing.T) {
	s := patterned(2002, 9)
	n := Of(s)
	for _, at := range []int{0, 1, 999, 1000, 1999, 2000} {
		for change := 1; change <= math.MaxUint16; change += 257 {
			if other := turned(s, at, change); Of(other) == n {
				t.Errorf("Of tells nothing of %#x at %d", change, at)
			}
		}
	}
}

// C3
func TestSumBehindTextIsNought(t *testing.T) {
	for _, s := range texts() {
		if got := Of(s + Bytes(Of(s))); got != 0 {
			t.Errorf("Of(%q and its sum) = %#x", s, got)
		}
	}
}

// C3: no other two bytes behind a text make 0 of it.
func TestNoOtherSumBehindTextIsNought(t *testing.T) {
	for _, s := range []string{"", "a", "123456789"} {
		for n := range 1 << 16 {
			if Of(s+Bytes(n)) == 0 && n != Of(s) {
				t.Errorf("Of(%q and %#x) = 0", s, n)
			}
		}
	}
}
