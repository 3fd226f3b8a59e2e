package utf_test

import (
	"bytes"
	"fmt"
	"math"
	"math/rand"
	"testing"
	"unicode/utf8"

	"escritoire/utf"
)

// farPlaces lie in no list; a sum with some of them wraps round.
var farPlaces = []int{math.MinInt, math.MinInt + 1, math.MinInt + 3, -1 << 62, -1 << 32, -5, -4, -3, -2, -1, 1 << 31, 1 << 32, 1 << 62, math.MaxInt - 4, math.MaxInt - 3, math.MaxInt - 1, math.MaxInt}

// edgeBytes are those at which the forms of letters part.
var edgeBytes = []byte{0x00, 0x41, 0x7f, 0x80, 0x8f, 0x90, 0x9f, 0xa0, 0xbf, 0xc0, 0xc1, 0xc2, 0xdf, 0xe0, 0xe1, 0xec, 0xed, 0xee, 0xef, 0xf0, 0xf1, 0xf3, 0xf4, 0xf5, 0xf7, 0xf8, 0xfc, 0xfe, 0xff}

// edgeLetters are the first and the last of each length, and those beside the halves.
var edgeLetters = []int{0, 1, 0x7f, 0x80, 0x7ff, 0x800, 0xd7ff, 0xe000, 0xfffd, 0xffff, 0x10000, 0x10fffe, 0x10ffff}

// badLetters have no bytes.
var badLetters = []int{math.MinInt, math.MinInt + 0x41, -1 << 32, -256, -2, -1, 0xd800, 0xd801, 0xdbff, 0xdc00, 0xdffe, 0xdfff, 0x110000, 0x110001, 0x1fffff, 0x200000, 1 << 31, 1<<32 + 0x41, 1 << 62, math.MaxInt}

// several is the length of the letter of several bytes that b begins with; 0 if there is none. The library reads by another way than the package does.
func several(b []byte) int {
	r, n := utf8.DecodeRune(b)
	if n < 2 || r == utf8.RuneError && !bytes.HasPrefix(b, []byte("\xef\xbf\xbd")) {
		return 0
	}
	return n
}

// wantNext, wantLast, wantBegins and wantCount are P2.1, word by word.
func wantNext(b []byte, at int) (int, int) {
	if at < 0 || at > len(b)-1 {
		return 0, 0
	}
	if n := several(b[at:]); n > 0 {
		r, _ := utf8.DecodeRune(b[at:])
		return int(r), n
	}
	if b[at] < 128 {
		return int(b[at]), 1
	}
	return -1, 1
}

func wantLast(b []byte, at int) int {
	if at < 1 || at > len(b) {
		return 0
	}
	for n := 2; n <= 4 && n <= at; n++ {
		if several(b[at-n:]) == n {
			return n
		}
	}
	return 1
}

func wantBegins(b []byte, at int) bool {
	if at < 0 || at > len(b) {
		return false
	}
	for start := range at {
		if start+several(b[start:]) > at {
			return false
		}
	}
	return true
}

func wantCount(b []byte) int {
	count := 0
	for len(b) > 0 {
		b = b[max(1, several(b)):]
		count++
	}
	return count
}

func checkPlace(t *testing.T, b []byte, at int) {
	t.Helper()
	r, n := utf.Next(b, at)
	if wr, wn := wantNext(b, at); r != wr || n != wn {
		t.Fatalf("Next(% x, %d) = %d, %d, want %d, %d", b, at, r, n, wr, wn)
	}
	if got, want := utf.Last(b, at), wantLast(b, at); got != want {
		t.Fatalf("Last(% x, %d) = %d, want %d", b, at, got, want)
	}
	if got, want := utf.Begins(b, at), wantBegins(b, at); got != want {
		t.Fatalf("Begins(% x, %d) = %v, want %v", b, at, got, want)
	}
}

func checkBytes(t *testing.T, b []byte) {
	t.Helper()
	for at := -2; at <= len(b)+2; at++ {
		checkPlace(t, b, at)
	}
	if got, want := utf.Count(b), wantCount(b); got != want {
		t.Fatalf("Count(% x) = %d, want %d", b, got, want)
	}
}

// someBytes are whole letters, parts of letters and single bytes, one behind the other.
func someBytes(r *rand.Rand) []byte {
	var b []byte
	for range r.Intn(10) {
		whole := []byte(string(rune(edgeLetters[r.Intn(len(edgeLetters))])))
		switch r.Intn(4) {
		case 0:
			b = append(b, edgeBytes[r.Intn(len(edgeBytes))])
		case 1:
			b = append(b, whole[:r.Intn(len(whole))]...)
		case 2:
			b = append(b, whole[r.Intn(len(whole)):]...)
		default:
			b = append(b, whole...)
		}
	}
	return b
}

func TestExamples(t *testing.T) {
	got := []string{
		fmt.Sprint(utf.Next([]byte{0xc3, 0xa4, 0x41}, 0)),
		fmt.Sprint(utf.Next([]byte{0xc3, 0x41}, 0)),
		fmt.Sprint(utf.Next([]byte{0xed, 0xa0, 0x80}, 0)),
		fmt.Sprint(utf.Last([]byte{0xc3, 0xa4}, 2)),
		fmt.Sprint(utf.Last([]byte{0xa4}, 1)),
		fmt.Sprint(utf.Begins([]byte{0xc3, 0xa4}, 1)),
		fmt.Sprint(utf.Begins([]byte{0xc3, 0x41}, 1)),
		fmt.Sprint(utf.Count([]byte{0xc3, 0xa4, 0xa4})),
	}
	want := []string{"228 2", "-1 1", "-1 1", "2", "1", "false", "true", "2"}
	for i := range want {
		if got[i] != want[i] {
			t.Errorf("example %d: %s, want %s", i, got[i], want[i])
		}
	}
}

// P2.1: letters of 1 to 4 bytes, and what looks like one and is none, written out.
func TestNextWrittenOut(t *testing.T) {
	cases := []struct {
		text string
		r, n int
	}{
		{"\x00", 0, 1}, {"a", 97, 1}, {"\x7f", 127, 1}, {"a\xcc\x81", 97, 1},
		{"\xc2\x80", 0x80, 2}, {"\xdf\xbf", 0x7ff, 2}, {"\xe0\xa0\x80", 0x800, 3}, {"\xed\x9f\xbf", 0xd7ff, 3}, {"\xee\x80\x80", 0xe000, 3},
		{"\xef\xbf\xbd", 0xfffd, 3}, {"\xef\xbf\xbf", 0xffff, 3}, {"\xf0\x90\x80\x80", 0x10000, 4}, {"\xf4\x8f\xbf\xbf", 0x10ffff, 4},
		{"\xe2\x82\xac\x80", 0x20ac, 3}, {"\xc3\xa4\xa4", 228, 2},
		// Forms that are not the shortest.
		{"\xc0\x80", -1, 1}, {"\xc1\xbf", -1, 1}, {"\xe0\x80\x80", -1, 1}, {"\xe0\x9f\xbf", -1, 1}, {"\xf0\x80\x80\x80", -1, 1}, {"\xf0\x8f\xbf\xbf", -1, 1},
		// Halves.
		{"\xed\xa0\x80", -1, 1}, {"\xed\xaf\xbf", -1, 1}, {"\xed\xb0\x80", -1, 1}, {"\xed\xbf\xbf", -1, 1},
		// Past the greatest letter, and longer than any letter.
		{"\xf4\x90\x80\x80", -1, 1}, {"\xf5\x80\x80\x80", -1, 1}, {"\xf7\xbf\xbf\xbf", -1, 1}, {"\xf8\x88\x80\x80\x80", -1, 1}, {"\xfc\x84\x80\x80\x80\x80", -1, 1}, {"\xfe\x80\x80\x80", -1, 1}, {"\xff", -1, 1}, {"\xff\xbf\xbf\xbf", -1, 1},
		// Cut off, by the end or by another letter.
		{"\xc3", -1, 1}, {"\xe2\x82", -1, 1}, {"\xf0\x9f\x98", -1, 1}, {"\xf0\x9f", -1, 1}, {"\xf0", -1, 1},
		{"\xc3a", -1, 1}, {"\xc3\xc3\xa4", -1, 1}, {"\xe2\x82a", -1, 1}, {"\xe2a\x82", -1, 1}, {"\xf0\x9f\x98a", -1, 1}, {"\xf0\x9f\x98\xc3", -1, 1}, {"\xf0\x9f\xff\x80", -1, 1},
		// A tail alone.
		{"\x80", -1, 1}, {"\xbf\xbf", -1, 1}, {"\xa4a", -1, 1},
	}
	for _, c := range cases {
		if r, n := utf.Next([]byte(c.text), 0); r != c.r || n != c.n {
			t.Errorf("Next(% x, 0) = %d, %d, want %d, %d", c.text, r, n, c.r, c.n)
		}
		if r, n := utf.Next([]byte("a\xc3"+c.text), 2); r != c.r || n != c.n {
			t.Errorf("Next(61 c3 % x, 2) = %d, %d, want %d, %d", c.text, r, n, c.r, c.n)
		}
		checkBytes(t, []byte(c.text))
	}
}

// P2.1: in the middle of a letter its tails are letters by themselves.
func TestPlacesInsideLetters(t *testing.T) {
	for _, text := range []string{"\xc3\xa4", "\xe2\x82\xac", "\xf0\x9f\x98\x80"} {
		b := []byte("x" + text + "y")
		for at := 2; at < len(b)-1; at++ {
			if r, n := utf.Next(b, at); r != -1 || n != 1 {
				t.Errorf("Next(% x, %d) = %d, %d", b, at, r, n)
			}
			if n := utf.Last(b, at); n != 1 {
				t.Errorf("Last(% x, %d) = %d", b, at, n)
			}
			if utf.Begins(b, at) {
				t.Errorf("Begins(% x, %d)", b, at)
			}
		}
		for _, at := range []int{0, 1, len(b) - 1, len(b)} {
			if !utf.Begins(b, at) {
				t.Errorf("not Begins(% x, %d)", b, at)
			}
		}
		if n := utf.Last(b, len(b)-1); n != len(text) {
			t.Errorf("Last(% x, %d) = %d, want %d", b, len(b)-1, n, len(text))
		}
		if n := utf.Count(b); n != 3 {
			t.Errorf("Count(% x) = %d", b, n)
		}
	}
}

// P2.1: all single bytes and all pairs of bytes.
func TestAllPairs(t *testing.T) {
	for i := range 256 {
		checkBytes(t, []byte{byte(i)})
		for k := range 256 {
			checkBytes(t, []byte{byte(i), byte(k)})
		}
	}
}

// P2.1: rows of three and of four bytes from those at which the forms part.
func TestEdgeRows(t *testing.T) {
	for _, a := range edgeBytes {
		for _, b := range edgeBytes {
			for _, c := range edgeBytes {
				checkBytes(t, []byte{a, b, c})
			}
		}
	}
	tails := []byte{0x41, 0x7f, 0x80, 0x8f, 0x90, 0x9f, 0xa0, 0xbf, 0xc0, 0xf0}
	for _, a := range edgeBytes {
		for _, b := range tails {
			for _, c := range tails {
				for _, d := range tails {
					checkBytes(t, []byte{a, b, c, d})
				}
			}
		}
	}
}

// P2.1: letters among parts of letters, with more tails in a row than any letter has.
func TestRowsOfParts(t *testing.T) {
	r := rand.New(rand.NewSource(1))
	for range 20000 {
		checkBytes(t, someBytes(r))
	}
	for n := range 12 {
		tails := bytes.Repeat([]byte{0x80}, n)
		for _, first := range []string{"", "a", "\xc3", "\xe2", "\xf0\x90", "\xf4", "\xf8", "\xff"} {
			checkBytes(t, append([]byte(first), tails...))
		}
	}
}

// P2.1, R1: places that no list has.
func TestWrongPlaces(t *testing.T) {
	for _, text := range []string{"", "a", "\x80", "\xc3", "\xc3\xa4", "\xe2\x82\xac", "\xf0\x9f\x98\x80", "\xf0\x9f\x98", "ab\xffcd"} {
		b := []byte(text)
		for _, at := range append([]int{-1, len(b) + 1, len(b) + 2, len(b) + 3, len(b) + 4}, farPlaces...) {
			r, n := utf.Next(b, at)
			if last, begins := utf.Last(b, at), utf.Begins(b, at); r != 0 || n != 0 || last != 0 || begins {
				t.Errorf("% x, %d: Next %d, %d; Last %d; Begins %v", b, at, r, n, last, begins)
			}
		}
		if r, n := utf.Next(b, len(b)); r != 0 || n != 0 {
			t.Errorf("Next(% x, %d) = %d, %d", b, len(b), r, n)
		}
		if n := utf.Last(b, 0); n != 0 {
			t.Errorf("Last(% x, 0) = %d", b, n)
		}
		if !utf.Begins(b, 0) || !utf.Begins(b, len(b)) {
			t.Errorf("% x: no letter begins at 0 or at the length", b)
		}
	}
	for _, none := range [][]byte{nil, {}} {
		checkBytes(t, none)
		if n := utf.Count(none); n != 0 {
			t.Errorf("Count of nothing is %d", n)
		}
	}
}

// P2.1, R1: a long list of what is no letter ends, as one of letters does.
func TestLongLists(t *testing.T) {
	cases := []struct {
		text  string
		count int
	}{{"a", 1}, {"\xff", 1}, {"\x80", 1}, {"\xf0\x9f\x98\x80", 1}, {"\xf0\x9f\x98", 3}, {"\xe2\x82\xacz", 2}}
	for _, c := range cases {
		if n := utf.Count(bytes.Repeat([]byte(c.text), 50000)); n != 50000*c.count {
			t.Errorf("Count of 50000 times % x is %d", c.text, n)
		}
	}
}

// P2.2: all letters, and none where there is none.
func TestEncodeAll(t *testing.T) {
	for r := -300; r <= 0x110400; r++ {
		got := utf.Encode(r)
		if r < 0 || r > 0x10ffff || 0xd800 <= r && r <= 0xdfff {
			if len(got) != 0 {
				t.Fatalf("Encode(%x) = % x, want none", r, got)
			}
			continue
		}
		if want := string(rune(r)); string(got) != want {
			t.Fatalf("Encode(%x) = % x, want % x", r, got, want)
		}
	}
	for _, r := range badLetters {
		if got := utf.Encode(r); len(got) != 0 {
			t.Errorf("Encode(%x) = % x, want none", r, got)
		}
	}
}

// P2.2: the first and the last letter of each length, written out.
func TestEncodeWrittenOut(t *testing.T) {
	want := []string{"00", "01", "7f", "c2 80", "df bf", "e0 a0 80", "ed 9f bf", "ee 80 80", "ef bf bd", "ef bf bf", "f0 90 80 80", "f4 8f bf be", "f4 8f bf bf"}
	for i, r := range edgeLetters {
		if got := fmt.Sprintf("% x", utf.Encode(r)); got != want[i] {
			t.Errorf("Encode(%x) = %s, want %s", r, got, want[i])
		}
	}
}

// P2.2: each number below 128 by a table, and numbers of all sizes around it.
func TestClass(t *testing.T) {
	const table = "2222222220022022" + "2222222222222222" + // 0 to 31
		"0222222222222222" + "1111111111222222" + // blank, digits
		"2111111111111111" + "1111111111122221" + // capital letters, _
		"2111111111111111" + "1111111111122222" // small letters
	for r := range 128 {
		if got, want := utf.Class(r), int(table[r]-'0'); got != want {
			t.Errorf("Class(%d) = %d, want %d", r, got, want)
		}
	}
	for _, r := range []int{128, 129, 160, 228, 255, 256, 256 + 10, 256 + ' ', 0x2028, 0x3000, 0xd800, 0xdfff, 0x10ffff, 0x110000, 1 << 32, 1<<32 + ' ', 1 << 62, math.MaxInt} {
		if got := utf.Class(r); got != 1 {
			t.Errorf("Class(%d) = %d, want 1", r, got)
		}
	}
	for _, r := range []int{-1, -2, -10, -32, -128, -256 + 'a', -1<<32 + 10, math.MinInt, math.MinInt + 'a'} {
		if got := utf.Class(r); got != 2 {
			t.Errorf("Class(%d) = %d, want 2", r, got)
		}
	}
}

// P2.2: of a to z and A to Z the other one, of all others themselves.
func TestFlip(t *testing.T) {
	const small, capital = "abcdefghijklmnopqrstuvwxyz", "ABCDEFGHIJKLMNOPQRSTUVWXYZ"
	other := map[int]int{}
	for i := range small {
		other[int(small[i])] = int(capital[i])
		other[int(capital[i])] = int(small[i])
	}
	rs := []int{math.MinInt, -1<<32 + 'a', -256 + 'A', 256 + 'a', 0x3b1, 0x391, 0x10ffff, 0x110000, 1<<32 + 'a', 1 << 62, math.MaxInt}
	for r := -200; r < 1000; r++ {
		rs = append(rs, r)
	}
	for _, r := range rs {
		want, ok := other[r]
		if !ok {
			want = r
		}
		if got := utf.Flip(r); got != want {
			t.Errorf("Flip(%d) = %d, want %d", r, got, want)
		}
		if got := utf.Flip(utf.Flip(r)); got != r {
			t.Errorf("Flip of Flip(%d) = %d", r, got)
		}
	}
}

// P2.3: on by Next and back by Last over the same places, and these are where letters begin.
func TestOnAndBack(t *testing.T) {
	r := rand.New(rand.NewSource(2))
	for range 5000 {
		b := someBytes(r)
		on := []int{0}
		for at := 0; at < len(b); {
			_, n := utf.Next(b, at)
			if n < 1 {
				t.Fatalf("% x: Next stays at %d", b, at)
			}
			at += n
			on = append(on, at)
		}
		at := len(b)
		for i := len(on) - 1; i >= 0; i-- {
			if at != on[i] {
				t.Fatalf("% x: Last comes to %d, Next went over %v", b, at, on)
			}
			at -= utf.Last(b, at)
		}
		var begins []int
		for at := range len(b) + 1 {
			if utf.Begins(b, at) {
				begins = append(begins, at)
			}
		}
		if fmt.Sprint(begins) != fmt.Sprint(on) || utf.Count(b) != len(on)-1 {
			t.Fatalf("% x: letters begin at %v, Next goes over %v, there are %d", b, begins, on, utf.Count(b))
		}
	}
}

// P2.3: from any place where a letter begins, not from 0 alone.
func TestOnAndBackFromEachPlace(t *testing.T) {
	b := []byte("\x80a\xc3\xa4\xe2\x82\xf0\x9f\x98\x80\xff\xe2\x82\xac\xc3")
	for from := range len(b) + 1 {
		if !utf.Begins(b, from) {
			continue
		}
		at := from
		for at < len(b) {
			_, n := utf.Next(b, at)
			at += n
			if !utf.Begins(b, at) {
				t.Fatalf("from %d Next leads to %d, where no letter begins", from, at)
			}
		}
		if at != len(b) {
			t.Fatalf("from %d Next leads to %d, past the end", from, at)
		}
		for at = from; at > 0; {
			at -= utf.Last(b, at)
			if !utf.Begins(b, at) {
				t.Fatalf("from %d Last leads to %d, where no letter begins", from, at)
			}
		}
		if at != 0 {
			t.Fatalf("from %d Last leads to %d", from, at)
		}
	}
}

// P2.3: Next of Encode(r) is r, alone and among others, and Last goes back over it.
func TestNextTellsWhatEncodeWrote(t *testing.T) {
	for r := range 0x110000 {
		b := utf.Encode(r)
		if len(b) == 0 {
			continue
		}
		if got, n := utf.Next(b, 0); got != r || n != len(b) {
			t.Fatalf("Next of Encode(%x) = %x, %d", r, got, n)
		}
		if n := utf.Last(b, len(b)); n != len(b) {
			t.Fatalf("Last of Encode(%x) = %d", r, n)
		}
	}
	for _, r := range edgeLetters {
		b := append(append([]byte("\xc3"), utf.Encode(r)...), "\xbf"...)
		if got, n := utf.Next(b, 1); got != r || n != len(b)-2 {
			t.Errorf("Next(% x, 1) = %x, %d", b, got, n)
		}
	}
}

// R4: what is handed in is as it was, its spare room and the bytes ahead of it too.
func TestArgumentsAreNotChanged(t *testing.T) {
	whole := []byte("\xe2\x82\xacx\xc3\xa4\xff\xf0\x9f\x98\x80\xf0\x9f\x98\x80\xac")
	before := bytes.Clone(whole)
	for from := range whole {
		for to := from; to <= len(whole); to++ {
			b := whole[from:to]
			for at := -1; at <= len(b)+1; at++ {
				utf.Next(b, at)
				utf.Last(b, at)
				utf.Begins(b, at)
			}
			utf.Count(b)
			if !bytes.Equal(whole, before) {
				t.Fatalf("from %d to %d: what was handed in is now % x", from, to, whole)
			}
		}
	}
}

// R4: what is answered is new memory, its spare room too.
func TestAnswersAreNewMemory(t *testing.T) {
	for _, r := range edgeLetters {
		first, second := utf.Encode(r), utf.Encode(r)
		kept := bytes.Clone(second[:cap(second)])
		first = first[:cap(first)]
		for i := range first {
			first[i] ^= 255
		}
		if !bytes.Equal(second[:cap(second)], kept) || string(utf.Encode(r)) != string(rune(r)) {
			t.Errorf("Encode(%x): two answers share memory", r)
		}
	}
}

// R5: bytes ahead of a list and room behind it are no part of it.
func TestSpareRoomIsNotSeen(t *testing.T) {
	whole := []byte("\xf0\x9f\x98\x80\xe2\x82\xac\xc3\xa4\x80\x80")
	for from := range whole {
		for to := from; to <= len(whole); to++ {
			b := whole[from:to]
			tight := bytes.Clone(b)[:len(b):len(b)]
			for at := -1; at <= len(b)+1; at++ {
				r, n := utf.Next(b, at)
				tr, tn := utf.Next(tight, at)
				if r != tr || n != tn || utf.Last(b, at) != utf.Last(tight, at) || utf.Begins(b, at) != utf.Begins(tight, at) {
					t.Fatalf("from %d to %d, at %d: an answer hangs on what lies around the list", from, to, at)
				}
			}
			checkBytes(t, b)
		}
	}
}
