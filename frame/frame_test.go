package frame

import (
	"math"
	"math/big"
	"regexp"
	"slices"
	"strings"
	"testing"

	"haggler/api"
	"haggler/sum"
)

// framed is a body with its length and its sum about it, be it a right one or
// not.
func framed(body string) string {
	s := string([]byte{byte(len(body) >> 8), byte(len(body))}) + body
	return s + sum.Bytes(sum.Of(s))
}

// same tells whether two records have the same kind, numbers and text.
func same(a, b api.Record) bool {
	return a.Kind == b.Kind && slices.Equal(a.Nums, b.Nums) && a.Text == b.Text
}

// patterned is a text of so many bytes, all kinds of them, as a short rule
// makes them.
func patterned(size, seed int) string {
	b := make([]byte, size)
	state := uint32(seed)
	for i := range b {
		state = state*1664525 + 1013904223
		b[i] = byte(state >> 24)
	}
	return string(b)
}

// spread is so many numbers, the same one each.
func spread(n, count int) []int { return slices.Repeat([]int{n}, count) }

// good is a right record, and the body of its frame.
type good struct {
	record api.Record
	body   string
}

// goods are right records: ordinary ones and those at the edges.
func goods() []good {
	high := "1125899906842624"
	return []good{
		{api.Record{Kind: 3, Nums: []int{7, -1}, Text: "a"}, "3 7 -1:a"},
		{api.Record{Kind: 1}, "1:"},
		{api.Record{Kind: 255}, "255:"},
		{api.Record{Kind: 1, Nums: []int{}}, "1:"},
		{api.Record{Kind: 10, Nums: []int{0}}, "10 0:"},
		{api.Record{Kind: 2, Nums: []int{1, 10, 100, -10}, Text: "mug"}, "2 1 10 100 -10:mug"},
		// Numbers at which a most of another layer ends, and at their own.
		{api.Record{Kind: 4, Nums: []int{1000000000000, 1000000000001, 1 << 40, -1 << 40}}, "4 1000000000000 1000000000001 1099511627776 -1099511627776:"},
		{api.Record{Kind: 254, Nums: []int{1 << 50, -1 << 50, 1<<50 - 1, -1<<50 + 1}}, "254 " + high + " -" + high + " 1125899906842623 -1125899906842623:"},
		{api.Record{Kind: 5, Nums: spread(0, 20), Text: "x"}, "5" + strings.Repeat(" 0", 20) + ":x"},
		// Texts that look like what stands ahead of them, and like frames.
		{api.Record{Kind: 6, Text: ":"}, "6::"},
		{api.Record{Kind: 6, Text: "::"}, "6:::"},
		{api.Record{Kind: 6, Text: " 7:a"}, "6: 7:a"},
		{api.Record{Kind: 6, Nums: []int{5}, Text: "5 5:5"}, "6 5:5 5:5"},
		{api.Record{Kind: 6, Text: framed("1:")}, "6:" + framed("1:")},
		// Texts of any bytes.
		{api.Record{Kind: 7, Text: "\x00"}, "7:\x00"},
		{api.Record{Kind: 7, Text: "\x00\x00\x00\x00"}, "7:\x00\x00\x00\x00"},
		{api.Record{Kind: 7, Text: "\xff\xfe\x80"}, "7:\xff\xfe\x80"},
		{api.Record{Kind: 7, Text: "caf\u00e9 \u20ac\n"}, "7:caf\u00e9 \u20ac\n"},
		// Bodies whose length has the lower byte 255, 0, or the higher one.
		{api.Record{Kind: 8, Text: strings.Repeat("y", 253)}, "8:" + strings.Repeat("y", 253)},
		{api.Record{Kind: 8, Text: strings.Repeat("y", 254)}, "8:" + strings.Repeat("y", 254)},
		{api.Record{Kind: 8, Text: strings.Repeat("y", 255)}, "8:" + strings.Repeat("y", 255)},
		{api.Record{Kind: 8, Text: patterned(1999, 1)}, "8:" + patterned(1999, 1)},
		{api.Record{Kind: 8, Text: patterned(2000, 2)}, "8:" + patterned(2000, 2)},
		// As long as a body may be.
		{api.Record{Kind: 255, Nums: spread(-1<<50, 20), Text: strings.Repeat("z", 2000)}, "255" + strings.Repeat(" -"+high, 20) + ":" + strings.Repeat("z", 2000)},
	}
}

// bads are records that are not right.
func bads() []api.Record {
	return []api.Record{
		{},
		{Kind: 0, Nums: []int{1}, Text: "a"},
		{Kind: -1},
		{Kind: 256},
		{Kind: 257},
		{Kind: 1 << 32},
		{Kind: 1<<32 + 1},
		{Kind: math.MinInt},
		{Kind: math.MaxInt},
		{Kind: 1, Nums: spread(0, 21)},
		{Kind: 1, Nums: spread(0, 1000)},
		{Kind: 1, Nums: []int{1<<50 + 1}},
		{Kind: 1, Nums: []int{-1<<50 - 1}},
		{Kind: 1, Nums: []int{math.MaxInt}},
		{Kind: 1, Nums: []int{math.MinInt}},
		{Kind: 1, Nums: []int{1<<50 + 1, 0, 0}},
		{Kind: 1, Nums: []int{0, 0, -1<<50 - 1}},
		{Kind: 1, Nums: append(spread(0, 19), 1<<50+1)},
		{Kind: 1, Text: strings.Repeat("x", 2001)},
		{Kind: 1, Text: strings.Repeat("x", 70000)},
		// 2000 runes, but more bytes.
		{Kind: 1, Text: strings.Repeat("\u20ac", 667)},
		{Kind: 1, Text: strings.Repeat("\u20ac", 2000)},
		{Kind: 0, Nums: spread(math.MaxInt, 21), Text: strings.Repeat("x", 2001)},
	}
}

// wrongs are bodies of no right record's frame.
func wrongs() []string {
	return []string{
		"", ":", "::", " ", " :", "a", "a:", "1", "255", "1 ", "1 2", "1 2 ",
		// Blanks, and other signs between.
		" 1:", "1 :", "1  2:", "1 2 :", " 1 2:", "1\t2:", "1,2:", "1\n:", "\n1:", "1\x00:", "1\x002:", "1\u00a02:",
		// Kinds that are none.
		"0:", "256:", "300:", "1000:", "-1:", "-0:", "+1:", "01:", "001:", "00:", "-255:", "1.0:", "1e1:", "0x1:", "1_0:", "4294967297:", "18446744073709551617:", "\u0661:", "\xff:",
		// Numbers that are none, or are spelled another way.
		"1 -:", "1 +:", "1 a:", "1 -0:", "1 +0:", "1 +1:", "1 00:", "1 01:", "1 -01:", "1 --1:", "1 -+1:", "1 1-:", "1 0x1:", "1 1_0:", "1 1.0:", "1 1e1:", "1 2a:", "1 \u0661:", "1 \xff:", "1 2 x 3:",
		// Numbers beyond.
		"1 1125899906842625:", "1 -1125899906842625:", "1 9223372036854775807:", "1 -9223372036854775808:", "1 9223372036854775808:", "1 -9223372036854775809:", "1 18446744073709551616:", "1 18446744073709551617:",
		"1 " + strings.Repeat("9", 65000) + ":", "1 " + strings.Repeat("0", 65000) + ":", strings.Repeat("1", 65535),
		// Too many numbers, too long a text.
		"1" + strings.Repeat(" 0", 21) + ":", "1" + strings.Repeat(" 0", 30000) + ":", "1:" + strings.Repeat("x", 2001), "1:" + strings.Repeat("x", 65533), strings.Repeat(":", 65535), strings.Repeat(" ", 65535),
	}
}

// F1
func TestRight(t *testing.T) {
	for _, x := range goods() {
		if !Right(x.record) {
			t.Errorf("Right of %.60q = false", x.body)
		}
	}
	for i, r := range bads() {
		if Right(r) {
			t.Errorf("Right of the bad record %d = true", i)
		}
	}
}

// F1: each bound by itself, a number's at each place.
func TestRightAtBounds(t *testing.T) {
	for kind := -300; kind <= 600; kind++ {
		if got := Right(api.Record{Kind: kind}); got != (1 <= kind && kind <= 255) {
			t.Errorf("Right of the kind %d = %t", kind, got)
		}
	}
	for count := range 50 {
		if got := Right(api.Record{Kind: 1, Nums: spread(7, count)}); got != (count <= 20) {
			t.Errorf("Right of %d numbers = %t", count, got)
		}
		for at := range min(count, 20) {
			for _, n := range []int{1 << 50, -1 << 50, 1<<50 + 1, -1<<50 - 1} {
				l := spread(7, min(count, 20))
				l[at] = n
				if got := Right(api.Record{Kind: 1, Nums: l}); got != (-1<<50 <= n && n <= 1<<50) {
					t.Errorf("Right of %d at %d = %t", n, at, got)
				}
			}
		}
	}
	for size := 1900; size < 2100; size++ {
		if got := Right(api.Record{Kind: 1, Text: strings.Repeat("x", size)}); got != (size <= 2000) {
			t.Errorf("Right of a text of %d bytes = %t", size, got)
		}
	}
}

// F2
func TestEncodeByHand(t *testing.T) {
	for _, x := range []struct {
		record api.Record
		want   string
	}{
		{api.Record{Kind: 3, Nums: []int{7, -1}, Text: "a"}, "\x00\x083 7 -1:a\xad\x64"},
		{api.Record{Kind: 1}, "\x00\x021:\x4b\x1d"},
	} {
		if got, err := Encode(x.record); got != x.want || err != api.OK {
			t.Errorf("Encode(%v) = %q, %d", x.record, got, err)
		}
	}
}

// F2
func TestEncodeOfRightRecords(t *testing.T) {
	for _, x := range goods() {
		if got, err := Encode(x.record); got != framed(x.body) || err != api.OK {
			t.Errorf("Encode of %.60q = %.60q, %d", x.body, got, err)
		}
	}
}

// F2
func TestEncodeOfOtherRecords(t *testing.T) {
	for i, r := range bads() {
		if got, err := Encode(r); got != "" || err != api.ErrArg {
			t.Errorf("Encode of the bad record %d = %.60q, %d", i, got, err)
		}
	}
}

// F2: what is handed in is not written into, nor what stands behind it.
func TestEncodeLeavesItsRecord(t *testing.T) {
	l := []int{7, -1, 1 << 50, 9, 9}
	first, _ := Encode(api.Record{Kind: 3, Nums: l[:3], Text: "a"})
	if !slices.Equal(l, []int{7, -1, 1 << 50, 9, 9}) {
		t.Errorf("Encode left %v", l)
	}
	l[0] = 8
	if again, _ := Encode(api.Record{Kind: 3, Nums: []int{7, -1, 1 << 50}, Text: "a"}); again != first {
		t.Errorf("Encode = %q, then %q", first, again)
	}
}

// expect holds what Scan answers against what it is to answer.
func expect(t *testing.T, s string, want []api.Record, size int, wantErr api.Errno) {
	t.Helper()
	got, n, err := Scan(s)
	if n != size || err != wantErr || !slices.EqualFunc(got, want, same) {
		t.Errorf("Scan(%.80q) = %d records, %d, %d; want %d, %d, %d", s, len(got), n, err, len(want), size, wantErr)
	}
}

// F3
func TestScanByHand(t *testing.T) {
	a, b := "\x00\x083 7 -1:a\xad\x64", "\x00\x021:\x4b\x1d"
	first, second := api.Record{Kind: 3, Nums: []int{7, -1}, Text: "a"}, api.Record{Kind: 1}
	expect(t, "", nil, 0, api.OK)
	expect(t, a, []api.Record{first}, 12, api.OK)
	expect(t, a+b, []api.Record{first, second}, 18, api.OK)
	expect(t, b+a+b, []api.Record{second, first, second}, 24, api.OK)
	// Fewer bytes than two, or than are asked for.
	expect(t, "\x00", nil, 0, api.OK)
	expect(t, "\xff", nil, 0, api.OK)
	expect(t, "\x00\x00", nil, 0, api.OK)
	expect(t, "\x00\x00\x00", nil, 0, api.OK)
	expect(t, "\xff\xff", nil, 0, api.OK)
	expect(t, "\x00\x02", nil, 0, api.OK)
	expect(t, "\x00\x021:\x4b", nil, 0, api.OK)
	expect(t, "\x00\x03xxxx", nil, 0, api.OK)
	expect(t, b+"a", []api.Record{second}, 6, api.OK)
	expect(t, b+a[:11], []api.Record{second}, 6, api.OK)
	expect(t, b+"\x01\x00"+strings.Repeat("x", 257), []api.Record{second}, 6, api.OK)
	expect(t, "\xff\xff"+strings.Repeat("x", 65536), nil, 0, api.OK)
	// They are there, but are no frame.
	expect(t, "\x00\x00\x00\x00", nil, 0, api.ErrForm)
	expect(t, framed(""), nil, 0, api.ErrForm)
	expect(t, "\x00\x03xxxxx", nil, 0, api.ErrForm)
	expect(t, "\x00\x021:\x4b\x1c", nil, 0, api.ErrForm)
	expect(t, "\x00\x021:\x1d\x4b", nil, 0, api.ErrForm)
	expect(t, b+"\x00\x021:\x00\x00"+a, []api.Record{second}, 6, api.ErrForm)
	expect(t, b+"\x01\x00"+strings.Repeat("x", 258), []api.Record{second}, 6, api.ErrForm)
	expect(t, "\xff\xff"+strings.Repeat("x", 65537), nil, 0, api.ErrForm)
	// The length with the lower byte first.
	expect(t, "\x02\x001:\x4b\x1d"+strings.Repeat("x", 600), nil, 0, api.ErrForm)
}

// F3
func TestScanOfRightRecords(t *testing.T) {
	for _, x := range goods() {
		s := framed(x.body)
		expect(t, s, []api.Record{x.record}, len(s), api.OK)
		expect(t, s+s, []api.Record{x.record, x.record}, 2*len(s), api.OK)
	}
}

// F3: what is no frame of a right record ends it, wherever it stands, and
// whatever stands behind.
func TestScanOfWrongBodies(t *testing.T) {
	ahead := api.Record{Kind: 2, Nums: []int{9}, Text: "z"}
	s := framed("2 9:z")
	for _, body := range wrongs() {
		expect(t, framed(body), nil, 0, api.ErrForm)
		expect(t, framed(body)+s, nil, 0, api.ErrForm)
		expect(t, s+framed(body), []api.Record{ahead}, len(s), api.ErrForm)
		expect(t, s+s+framed(body)+s, []api.Record{ahead, ahead}, 2*len(s), api.ErrForm)
		// A byte is missing yet: then nothing is wrong so far.
		cut := framed(body)
		expect(t, s+cut[:len(cut)-1], []api.Record{ahead}, len(s), api.OK)
	}
}

// shape is what a right record's body begins with, its kind and its numbers.
var shape = regexp.MustCompile(`^([1-9][0-9]*)((?: (?:0|-?[1-9][0-9]*))*):`)

// rightly tells by its shape and by math/big whether a body is a right
// record's.
func rightly(body string) bool {
	parts := shape.FindStringSubmatch(body)
	if parts == nil || len(body)-len(parts[0]) > 2000 {
		return false
	}
	kind, _ := new(big.Int).SetString(parts[1], 10)
	if kind.Cmp(big.NewInt(255)) > 0 {
		return false
	}
	nums := strings.Fields(parts[2])
	for _, field := range nums {
		n, _ := new(big.Int).SetString(field, 10)
		if n.CmpAbs(new(big.Int).Lsh(big.NewInt(1), 50)) > 0 {
			return false
		}
	}
	return len(nums) <= 20
}

// F3: of all short bodies those alone are told that are a right record's, and
// they are that record's whose frame they are.
func TestScanOfAllShortBodies(t *testing.T) {
	last := []string{""}
	for range 6 {
		var next []string
		for _, ahead := range last {
			for _, piece := range []string{"0", "2", "6", "-", "+", " ", ":", "a"} {
				next = append(next, ahead+piece)
			}
		}
		for _, body := range next {
			s := framed(body)
			got, n, err := Scan(s)
			if !rightly(body) {
				if len(got) > 0 || n != 0 || err != api.ErrForm {
					t.Errorf("Scan of %q = %v, %d, %d", body, got, n, err)
				}
				continue
			}
			if len(got) != 1 || n != len(s) || err != api.OK {
				t.Errorf("Scan of %q = %v, %d, %d", body, got, n, err)
				continue
			}
			if own, _ := Encode(got[0]); own != s {
				t.Errorf("Scan of %q = %v", body, got[0])
			}
		}
		last = next
	}
}

// F3: whatever bytes there are, what is told is told of the frames that they
// begin with, and ends for its reason.
func TestScanOfAnyBytes(t *testing.T) {
	for seed := range 3000 {
		noise := patterned(seed%97, seed)
		for _, s := range []string{noise, framed("9 1:m") + noise, "\x00" + noise, "\x00\x04" + noise, framed(noise) + noise} {
			got, n, err := Scan(s)
			told := ""
			for _, r := range got {
				frame, _ := Encode(r)
				told += frame
			}
			if n > len(s) || told != s[:n] {
				t.Errorf("Scan(%q) = %v, %d, %d", s, got, n, err)
				continue
			}
			left := s[n:]
			there := len(left) >= 2 && len(left) >= 4+int(left[0])*256+int(left[1])
			if there != (err == api.ErrForm) || !there != (err == api.OK) {
				t.Errorf("Scan(%q) = %v, %d, %d", s, got, n, err)
			}
		}
	}
}

// F3: as many bytes as a disk may have, of the shortest frames.
func TestScanOfLongText(t *testing.T) {
	s := strings.Repeat(framed("1:"), 166666)
	got, n, err := Scan(s)
	if len(got) != 166666 || n != len(s) || err != api.OK {
		t.Errorf("Scan of a long text = %d records, %d, %d", len(got), n, err)
	}
}

// F3: what comes out is new memory, its spare room too.
func TestScanAnswersNewMemory(t *testing.T) {
	s := framed("1 5:a") + framed("2 6 7:b") + framed("3:c")
	want := []api.Record{{Kind: 1, Nums: []int{5}, Text: "a"}, {Kind: 2, Nums: []int{6, 7}, Text: "b"}, {Kind: 3, Text: "c"}}
	first, _, _ := Scan(s)
	second, _, _ := Scan(s)
	for i := range first {
		first[i].Nums = append(first[i].Nums, 8, 8, 8)
		for j := range first[i].Nums {
			first[i].Nums[j] = 9
		}
		if i+1 < len(first) && !same(first[i+1], want[i+1]) {
			t.Errorf("a write into record %d made %v of the next", i, first[i+1])
		}
	}
	first = append(first[:0], api.Record{Kind: 9}, api.Record{Kind: 9}, api.Record{Kind: 9}, api.Record{Kind: 9})
	if !slices.EqualFunc(second, want, same) || len(first) != 4 {
		t.Errorf("writes into what Scan told made %v of what it told before", second)
	}
	expect(t, s, want, len(s), api.OK)
}

// several are records whose frames stand one behind the other, and the places
// at which these begin, with the end of the last one.
func several() (records []api.Record, all string, places []int) {
	for _, x := range []good{
		{api.Record{Kind: 1}, "1:"},
		{api.Record{Kind: 3, Nums: []int{7, -1}, Text: "a"}, "3 7 -1:a"},
		{api.Record{Kind: 255, Nums: []int{1 << 50}, Text: "\x00\x00:\xff"}, "255 1125899906842624:\x00\x00:\xff"},
		{api.Record{Kind: 6, Text: strings.Repeat("y", 254)}, "6:" + strings.Repeat("y", 254)},
		{api.Record{Kind: 2, Nums: []int{0, 0}}, "2 0 0:"},
	} {
		records, places = append(records, x.record), append(places, len(all))
		all += framed(x.body)
	}
	return records, all, append(places, len(all))
}

// whole is how many of the frames at these places end at a place or ahead of
// it.
func whole(places []int, end int) int {
	n := 0
	for n+1 < len(places) && places[n+1] <= end {
		n++
	}
	return n
}

// F4
func TestFramesAreScannedToTheirRecords(t *testing.T) {
	var records []api.Record
	all := ""
	for _, x := range goods() {
		frame, _ := Encode(x.record)
		records, all = append(records, x.record), all+frame
	}
	for n := range records {
		ahead := ""
		for _, r := range records[:n] {
			frame, _ := Encode(r)
			ahead += frame
		}
		expect(t, ahead, records[:n], len(ahead), api.OK)
	}
	expect(t, all+all, append(slices.Clone(records), records...), 2*len(all), api.OK)
}

// F4: whatever is cut off.
func TestWhatIsCutOff(t *testing.T) {
	records, all, places := several()
	for end := range len(all) + 1 {
		n := whole(places, end)
		expect(t, all[:end], records[:n], places[n], api.OK)
	}
}

// F4: each byte as each other one, but those of a length.
func TestOneOtherByte(t *testing.T) {
	records, all, places := several()
	for at := range len(all) {
		n := whole(places, at)
		if at < places[n]+2 {
			continue
		}
		for change := 1; change < 256; change++ {
			b := []byte(all)
			b[at] ^= byte(change)
			expect(t, string(b), records[:n], places[n], api.ErrForm)
		}
	}
}

// F4: with another length, too, the records ahead of it are told.
func TestAnotherLength(t *testing.T) {
	records, all, places := several()
	for n := range records {
		for at := places[n]; at < places[n]+2; at++ {
			for change := 1; change < 256; change++ {
				b := []byte(all)
				b[at] ^= byte(change)
				got, size, _ := Scan(string(b))
				if len(got) < n || size < places[n] || !slices.EqualFunc(got[:n], records[:n], same) {
					t.Errorf("Scan with %#x at %d = %v, %d", change, at, got, size)
				}
			}
		}
	}
}
