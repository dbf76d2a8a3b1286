package disk

import (
	"math"
	"strings"
	"testing"

	"haggler/api"
)

// lengths are numbers of bytes that may be asked for of a few bytes: each one,
// some beyond at both sides, and those at which the 64 bits end.
func lengths() []int {
	l := []int{math.MinInt, math.MinInt + 1, math.MinInt32, -1000000, math.MaxInt32, 1 << 32, 1<<32 + 1, math.MaxInt - 3, math.MaxInt - 1, math.MaxInt}
	for n := -9; n <= 9; n++ {
		l = append(l, n)
	}
	return l
}

// texts are ordinary texts and others: runes of several bytes, bytes that are
// no runes, noughts and line feeds.
func texts() []string {
	return []string{"", "a", "ab", "cdef", "\x00", "\x00\x00\x00", "\n", "\xff\xfe", "\x80", "\u20ac", "caf\u00e9", "\xe2\x82", "3 7 -1:a"}
}

// disks are those of each two of the texts.
func disks() []api.Disk {
	var l []api.Disk
	for _, kept := range texts() {
		for _, pend := range texts() {
			l = append(l, api.Disk{Kept: kept, Pend: pend})
		}
	}
	return l
}

// first is the first n bytes of a text, gone through one by one.
func first(s string, n int) string {
	var b []byte
	for i := 0; i < len(s) && i < n; i++ {
		b = append(b, s[i])
	}
	return string(b)
}

// filled is a text of so many bytes.
func filled(size int) string { return strings.Repeat("x", size) }

// D1
func TestAllByHand(t *testing.T) {
	for _, x := range []struct {
		d    api.Disk
		want string
	}{
		{api.Disk{}, ""},
		{api.Disk{Kept: "ab"}, "ab"},
		{api.Disk{Pend: "cd"}, "cd"},
		{api.Disk{Kept: "ab", Pend: "cdef"}, "abcdef"},
		{api.Disk{Kept: "\xe2", Pend: "\x82\xac"}, "\u20ac"},
		{api.Disk{Kept: "\x00", Pend: "\x00\xff"}, "\x00\x00\xff"},
	} {
		if got := All(x.d); got != x.want {
			t.Errorf("All(%q) = %q", x.d, got)
		}
	}
}

// D1
func TestAppendByHand(t *testing.T) {
	for _, x := range []struct {
		d    api.Disk
		s    string
		want api.Disk
	}{
		{api.Disk{}, "", api.Disk{}},
		{api.Disk{}, "ab", api.Disk{Pend: "ab"}},
		{api.Disk{Kept: "ab"}, "", api.Disk{Kept: "ab"}},
		{api.Disk{Kept: "ab"}, "cd", api.Disk{Kept: "ab", Pend: "cd"}},
		{api.Disk{Pend: "ab"}, "cd", api.Disk{Pend: "abcd"}},
		{api.Disk{Kept: "ab", Pend: "cd"}, "ef", api.Disk{Kept: "ab", Pend: "cdef"}},
		{api.Disk{Kept: "ab", Pend: "cd"}, "", api.Disk{Kept: "ab", Pend: "cd"}},
		{api.Disk{Kept: "\xff", Pend: "\x00"}, "\n\u20ac", api.Disk{Kept: "\xff", Pend: "\x00\n\u20ac"}},
	} {
		if got, err := Append(x.d, x.s); got != x.want || err != api.OK {
			t.Errorf("Append(%q, %q) = %q, %d", x.d, x.s, got, err)
		}
	}
}

// D1: whatever stands there.
func TestAppendOfAnyBytes(t *testing.T) {
	for _, d := range disks() {
		for _, s := range texts() {
			got, err := Append(d, s)
			if err != api.OK || got.Kept != d.Kept || got.Pend != d.Pend+s || All(got) != All(d)+s {
				t.Errorf("Append(%q, %q) = %q, %d", d, s, got, err)
			}
		}
	}
}

// D1: as many bytes as there may be, and one more, however they are spread.
func TestAppendAtTheLimit(t *testing.T) {
	for _, x := range []struct{ kept, pend, s int }{
		{0, 0, 1000000},
		{1000000, 0, 0},
		{0, 1000000, 0},
		{999999, 0, 1},
		{0, 999999, 1},
		{1, 0, 999999},
		{0, 1, 999999},
		{1, 999998, 1},
		{999998, 1, 1},
		{400000, 300000, 300000},
		{500000, 500000, 0},
	} {
		d := api.Disk{Kept: filled(x.kept), Pend: filled(x.pend)}
		if got, err := Append(d, filled(x.s)); err != api.OK || got.Kept != d.Kept || got.Pend != d.Pend+filled(x.s) {
			t.Errorf("Append of %d to %d and %d = %d and %d, %d", x.s, x.kept, x.pend, len(got.Kept), len(got.Pend), err)
		}
		for _, more := range []int{1, 2, 1000, 1000000} {
			if got, err := Append(d, filled(x.s+more)); err != api.ErrFull || got != d {
				t.Errorf("Append of %d to %d and %d = %d and %d, %d", x.s+more, x.kept, x.pend, len(got.Kept), len(got.Pend), err)
			}
		}
	}
}

// D1: to a disk that has more than there may be nothing is appended, not even
// no byte.
func TestAppendBeyondTheLimit(t *testing.T) {
	for _, d := range []api.Disk{
		{Kept: filled(1000001)},
		{Pend: filled(1000001)},
		{Kept: filled(1000000), Pend: "x"},
		{Kept: "x", Pend: filled(1000000)},
		{Kept: filled(700000), Pend: filled(700000)},
		{Kept: filled(3000000), Pend: filled(3000000)},
	} {
		for _, s := range []string{"", "a", filled(1000001)} {
			if got, err := Append(d, s); err != api.ErrFull || got != d {
				t.Errorf("Append of %d to %d and %d = %d and %d, %d", len(s), len(d.Kept), len(d.Pend), len(got.Kept), len(got.Pend), err)
			}
		}
	}
}

// D1: what was refused leaves its room to what is shorter.
func TestAppendBehindRefusal(t *testing.T) {
	full, _ := Append(api.Disk{Kept: filled(999000)}, filled(999))
	same, err := Append(full, "ab")
	if err != api.ErrFull {
		t.Errorf("Append of 2 to 999999 = %d", err)
	}
	if got, err := Append(same, "a"); err != api.OK || All(got) != filled(999999)+"a" {
		t.Errorf("Append of 1 to 999999 = %d bytes, %d", len(All(got)), err)
	}
}

// D1
func TestSync(t *testing.T) {
	if got := Sync(api.Disk{Kept: "ab", Pend: "cd"}); got != (api.Disk{Kept: "abcd"}) {
		t.Errorf("Sync = %q", got)
	}
	for _, d := range disks() {
		if got := Sync(d); got != (api.Disk{Kept: d.Kept + d.Pend}) {
			t.Errorf("Sync(%q) = %q", d, got)
		}
	}
}

// D2
func TestCrashByHand(t *testing.T) {
	d := api.Disk{Kept: "ab", Pend: "cdef"}
	for keep, want := range map[int]string{
		math.MinInt: "ab", -3: "ab", -2: "ab", -1: "ab", 0: "ab",
		1: "abc", 2: "abcd", 3: "abcde", 4: "abcdef",
		5: "abcdef", 6: "abcdef", math.MaxInt - 2: "abcdef", math.MaxInt - 1: "abcdef", math.MaxInt: "abcdef",
	} {
		if got := Crash(d, keep); got != (api.Disk{Kept: want}) {
			t.Errorf("Crash(%q, %d) = %q", d, keep, got)
		}
	}
}

// D2: of each few bytes.
func TestCrashOfAnyBytes(t *testing.T) {
	for _, d := range disks() {
		for _, keep := range lengths() {
			if got := Crash(d, keep); got != (api.Disk{Kept: d.Kept + first(d.Pend, keep)}) {
				t.Errorf("Crash(%q, %d) = %q", d, keep, got)
			}
		}
	}
}

// D2
func TestCutByHand(t *testing.T) {
	d := api.Disk{Kept: "ab", Pend: "cdef"}
	for n, want := range map[int]string{
		math.MinInt: "", -2: "", -1: "", 0: "",
		1: "a", 2: "ab", 3: "abc", 4: "abcd", 5: "abcde", 6: "abcdef",
		7: "abcdef", 8: "abcdef", math.MaxInt - 1: "abcdef", math.MaxInt: "abcdef",
	} {
		if got := Cut(d, n); got != (api.Disk{Kept: want}) {
			t.Errorf("Cut(%q, %d) = %q", d, n, got)
		}
	}
}

// D2: of each few bytes.
func TestCutOfAnyBytes(t *testing.T) {
	for _, d := range disks() {
		for _, n := range lengths() {
			if got := Cut(d, n); got != (api.Disk{Kept: first(d.Kept+d.Pend, n)}) {
				t.Errorf("Cut(%q, %d) = %q", d, n, got)
			}
		}
	}
}

// D1, D2: what is no append asks for no limit.
func TestTheOthersBeyondTheLimit(t *testing.T) {
	d := api.Disk{Kept: filled(900000), Pend: filled(900000)}
	for _, x := range []struct {
		name string
		got  api.Disk
		want int
	}{
		{"Sync", Sync(d), 1800000},
		{"Crash 0", Crash(d, 0), 900000},
		{"Crash 500000", Crash(d, 500000), 1400000},
		{"Crash 900001", Crash(d, 900001), 1800000},
		{"Cut 0", Cut(d, 0), 0},
		{"Cut 1000001", Cut(d, 1000001), 1000001},
		{"Cut 1800001", Cut(d, 1800001), 1800000},
	} {
		if x.got != (api.Disk{Kept: filled(x.want)}) {
			t.Errorf("%s = %d and %d", x.name, len(x.got.Kept), len(x.got.Pend))
		}
	}
	if len(All(d)) != 1800000 {
		t.Errorf("All = %d", len(All(d)))
	}
}

// D1, D2: the example of the chapter.
func TestExample(t *testing.T) {
	d, _ := Append(api.Disk{}, "ab")
	d, _ = Append(Sync(d), "cd")
	if got := All(Crash(d, 1)); got != "abc" {
		t.Errorf("All = %q", got)
	}
}

// D3
func TestCrashLeavesABeginning(t *testing.T) {
	for _, d := range disks() {
		for _, keep := range lengths() {
			got := All(Crash(d, keep))
			if !strings.HasPrefix(All(d), got) || !strings.HasPrefix(got, d.Kept) {
				t.Errorf("All of %q behind a crash of %d = %q", d, keep, got)
			}
		}
	}
}

// D3
func TestCrashBehindCrashOrSync(t *testing.T) {
	for _, d := range disks() {
		for _, keep := range lengths() {
			crashed := Crash(d, keep)
			for _, again := range lengths() {
				if got := Crash(crashed, again); got != crashed {
					t.Errorf("Crash(Crash(%q, %d), %d) = %q", d, keep, again, got)
				}
			}
			if got := Crash(Sync(d), keep); got != Sync(d) {
				t.Errorf("Crash(Sync(%q), %d) = %q", d, keep, got)
			}
		}
	}
}

// log is a disk as bytes, of which the first so many were synced.
type log struct {
	bytes  []byte
	synced int
}

// disk is the disk that has a log.
func (l log) disk() api.Disk {
	return api.Disk{Kept: string(l.bytes[:l.synced]), Pend: string(l.bytes[l.synced:])}
}

// cut leaves the first n bytes, all of them synced.
func (l log) cut(n int) log { return log{l.bytes[:n], n} }

// D1 to D3: many deeds, one behind the other, as a short rule chooses them.
func TestManyDeeds(t *testing.T) {
	state := uint32(5)
	next := func(below int) int {
		state = state*1664525 + 1013904223
		return int(state>>16) % below
	}
	var d api.Disk
	var l log
	for step := range 20000 {
		switch next(6) {
		default:
			s := texts()[next(len(texts()))]
			d, _ = Append(d, s)
			l.bytes = append(l.bytes, s...)
		case 3:
			d = Sync(d)
			l.synced = len(l.bytes)
		case 4:
			keep := next(len(l.bytes) - l.synced + 1)
			d = Crash(d, keep)
			l = l.cut(l.synced + keep)
		case 5:
			n := len(l.bytes) - next(min(len(l.bytes), 9)+1)
			d = Cut(d, n)
			l = l.cut(n)
		}
		if d != l.disk() || All(d) != string(l.bytes) {
			t.Fatalf("behind %d deeds: %q, want %q", step+1, d, l.disk())
		}
	}
}

// D1, D2: whoever does something to a disk has another one: the first one is
// as it was, and so is what was made of it.
func TestDisksAreValues(t *testing.T) {
	d := api.Disk{Kept: "ab", Pend: "cd"}
	one, _ := Append(d, "e")
	other, _ := Append(d, "f")
	Sync(one)
	Crash(one, 0)
	Cut(one, 1)
	if d != (api.Disk{Kept: "ab", Pend: "cd"}) || one != (api.Disk{Kept: "ab", Pend: "cde"}) || other != (api.Disk{Kept: "ab", Pend: "cdf"}) {
		t.Errorf("they are %q, %q, %q", d, one, other)
	}
}

// D1, D2: no call panics, and each answers the same for the same.
func TestDeedsAgain(t *testing.T) {
	for _, d := range disks() {
		for _, n := range lengths() {
			if Crash(d, n) != Crash(d, n) || Cut(d, n) != Cut(d, n) || Sync(d) != Sync(d) || All(d) != All(d) {
				t.Errorf("of %q and %d twice unlike answers", d, n)
			}
		}
	}
}
