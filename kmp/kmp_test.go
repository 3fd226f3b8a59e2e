package kmp_test

import (
	"bytes"
	"fmt"
	"math"
	"math/rand"
	"slices"
	"strings"
	"sync"
	"testing"

	"escritoire/api"
	"escritoire/kmp"
)

// far places lie in no row.
var far = []int{math.MinInt, math.MinInt + 1, -1 << 62, -1 << 32, -1<<32 + 1, -1 << 31, -4097, -11, -10, -2, -1, 1 << 20, 1 << 31, 1 << 32, 1<<32 + 1, 1 << 62, math.MaxInt - 4096, math.MaxInt - 2, math.MaxInt - 1, math.MaxInt}

// words are all rows of the letters that have no more than most of them, the empty one first.
func words(letters string, most int) []string {
	all := []string{""}
	for last := all; most > 0; most-- {
		var longer []string
		for _, w := range last {
			for _, c := range []byte(letters) {
				longer = append(longer, w+string([]byte{c}))
			}
		}
		all = append(all, longer...)
		last = longer
	}
	return all
}

// stands tells whether p stands at a place of b: each byte is held against its own.
func stands(b, p string, at int) bool {
	if at < 0 || at+len(p) > len(b) {
		return false
	}
	for i := range len(p) {
		if b[at+i] != p[i] {
			return false
		}
	}
	return true
}

// places where p stands in b: every place is tried.
func places(b, p string) []int {
	var l []int
	for at := range len(b) {
		if p != "" && stands(b, p, at) {
			l = append(l, at)
		}
	}
	return l
}

// ends are the places behind the last bytes of p's occurrences in b.
func ends(b, p string) []int {
	l := places(b, p)
	for i := range l {
		l[i] += len(p)
	}
	return l
}

// fail is Fail by its words: every k is tried.
func fail(p string) []int {
	l := make([]int, len(p))
	for i := range l {
		for k := range i + 1 {
			if p[:k] == p[i+1-k:i+1] {
				l[i] = k
			}
		}
	}
	return l
}

// first is First by its words.
func first(b, p string, from int) int {
	for _, at := range places(b, p) {
		if at >= from {
			return at
		}
	}
	return -1
}

// last is Last by its words.
func last(b, p string, before int) int {
	found := -1
	for _, at := range places(b, p) {
		if at < before {
			found = at
		}
	}
	return found
}

// finder of a pattern that is not refused.
func finder(t *testing.T, p string) *kmp.Finder {
	t.Helper()
	f, e := kmp.New([]byte(p))
	if f == nil || e != api.OK {
		t.Fatalf("New of %d bytes: %v, %v", len(p), f, e)
	}
	return f
}

// wantEnds feeds b and wants these ends, and that so many bytes came.
func wantEnds(t *testing.T, what string, f *kmp.Finder, b string, want []int, at int) {
	t.Helper()
	if got := f.Feed([]byte(b)); !slices.Equal(got, want) {
		t.Fatalf("%s: fed %.40q: %v, want %v", what, b, got, want)
	}
	if got := f.At(); got != at {
		t.Fatalf("%s: at %d, want %d", what, got, at)
	}
}

// wantParts feeds b in parts that end at the cuts and at its end, and wants each to tell the ends that lie in it.
func wantParts(t *testing.T, f *kmp.Finder, b, p string, cuts ...int) {
	t.Helper()
	want, begin := ends(b, p), 0
	for _, cut := range append(slices.Clone(cuts), len(b)) {
		var here []int
		for _, end := range want {
			if end > begin && end <= cut {
				here = append(here, end)
			}
		}
		wantEnds(t, fmt.Sprintf("%.40q in %.40q cut at %v", p, b, cuts), f, b[begin:cut], here, cut)
		begin = cut
	}
}

func TestExamples(t *testing.T) {
	t.Parallel()
	f := finder(t, "aa")
	if got := fmt.Sprint(f.Feed([]byte("aa")), f.Feed([]byte("a")), f.At()); got != "[2] [3] 3" {
		t.Errorf("fed: %s", got)
	}
	b, p := []byte("aaa"), []byte("aa")
	if got := fmt.Sprint(kmp.Fail([]byte("abab")), kmp.First(b, p, 1), kmp.Last(b, p, 1)); got != "[0 0 1 2] 1 0" {
		t.Errorf("asked: %s", got)
	}
}

// P17.1: which patterns are taken.
func TestNew(t *testing.T) {
	t.Parallel()
	for _, n := range []int{1, 2, 3, 255, 256, 257, api.MaxLine - 1, api.MaxLine} {
		for _, p := range [][]byte{make([]byte, n), []byte(strings.Repeat("a", n-1) + "b"), bytes.Repeat([]byte{255}, n)} {
			f, e := kmp.New(p)
			if f == nil || e != api.OK {
				t.Fatalf("%d bytes: %v, %v", n, f, e)
			}
			wantEnds(t, "a new one", f, string(p), []int{n}, n)
		}
	}
	refused := [][]byte{nil, {}, make([]byte, 0, 9)}
	for _, n := range []int{api.MaxLine + 1, api.MaxLine + 2, 2 * api.MaxLine, 1 << 16, 1<<16 + 1, 1 << 20} {
		refused = append(refused, make([]byte, n))
	}
	for _, p := range refused {
		if f, e := kmp.New(p); f != nil || e != api.ErrArg {
			t.Errorf("%d bytes: %v, %v; want nothing, ErrArg", len(p), f, e)
		}
	}
}

// P17.1 and P17.3: all short patterns in all short rows, cut at each two places.
func TestFeedAll(t *testing.T) {
	t.Parallel()
	for _, p := range words("ab", 5)[1:] {
		f := finder(t, p)
		for _, b := range words("ab", 8) {
			for one := range len(b) + 1 {
				for two := one; two <= len(b); two++ {
					f.Reset()
					wantParts(t, f, b, p, one, two)
				}
			}
		}
	}
	for _, p := range words("abc", 3)[1:] {
		f := finder(t, p)
		for _, b := range words("abc", 6) {
			f.Reset()
			wantParts(t, f, b, p, len(b)/2)
		}
	}
}

// P17.3: byte by byte, with nothing between, and all at once.
func TestFeedByByte(t *testing.T) {
	t.Parallel()
	for _, p := range words("ab", 4)[1:] {
		for _, b := range words("ab", 7) {
			one, all := finder(t, p), finder(t, p)
			var got []int
			for i := range len(b) {
				got = append(got, one.Feed(nil)...)
				got = append(got, one.Feed([]byte{b[i]})...)
				got = append(got, one.Feed([]byte{})...)
			}
			if want := ends(b, p); !slices.Equal(got, want) || one.At() != len(b) {
				t.Fatalf("%q in %q: %v, at %d; want %v", p, b, got, one.At(), want)
			}
			wantEnds(t, p, all, b, ends(b, p), len(b))
		}
	}
}

// P17.1: patterns that go back in their own ways.
func TestFeedPatterns(t *testing.T) {
	t.Parallel()
	for _, p := range []string{
		"a", "aa", "aaaaaaaa", "aaaaaaab", "baaaaaaa", "abababab", "abababac", "abcabcabd", "aabaaab", "aabaabaaa", "abacabadabacabae",
		"\x00", "\x00\x00", "\x00\x01\x00", "\xff\x00\xff", "\n\n", "\xc3\xa4\xc3\xa4", "\xa4\xc3", strings.Repeat("ab", 50) + "b",
	} {
		for _, b := range []string{
			p, p + p, p + p + p, p[:len(p)-1], p[1:], p[:len(p)-1] + p, p + p[1:], p[:len(p)/2] + p + p[len(p)/2:], p + "x" + p, "x" + p + "x", strings.Repeat(p[:1], 3*len(p)), strings.Repeat(p[:(len(p)+1)/2], 5) + p,
		} {
			for cut := range len(b) + 1 {
				wantParts(t, finder(t, p), b, p, cut)
			}
			wantParts(t, finder(t, p), b, p)
		}
	}
}

// P17.1: all 256 bytes are bytes like others.
func TestFeedBytes(t *testing.T) {
	t.Parallel()
	var all []byte
	for i := range 256 {
		all = append(all, byte(i))
	}
	for i := range 256 {
		wantParts(t, finder(t, string(all[i:i+1])), string(all)+string(all), string(all[i:i+1]), i, 256)
	}
	wantEnds(t, "all bytes", finder(t, string(all)), string(all[128:])+string(all)+string(all)+string(all[:255]), []int{384, 640}, 128+256+256+255)
}

// P17.1: bytes that are none, and bytes without an occurrence.
func TestFeedNothing(t *testing.T) {
	t.Parallel()
	f := finder(t, "ab")
	wantEnds(t, "new", f, "", nil, 0)
	if got := f.Feed(nil); len(got) != 0 || f.At() != 0 {
		t.Errorf("fed nil: %v, at %d", got, f.At())
	}
	wantEnds(t, "no occurrence", f, "bbaacaca", nil, 8)
	wantEnds(t, "then", f, "b", []int{9}, 9)
	wantEnds(t, "nothing behind it", f, "", nil, 9)
	wantEnds(t, "no byte twice", f, "b", nil, 10)
}

// P17.1: an occurrence over one seam, and over as many as it has bytes less 1.
func TestFeedSeams(t *testing.T) {
	t.Parallel()
	p := strings.Repeat("abcab", 40)
	b := "xab" + p + "abc"
	for cut := 1; cut < len(p); cut++ {
		f := finder(t, p)
		wantEnds(t, "ahead of the seam", f, b[:3+cut], nil, 3+cut)
		wantEnds(t, "behind the seam", f, b[3+cut:], []int{3 + len(p)}, len(b))
	}
	f := finder(t, p)
	for i := range len(b) {
		var want []int
		if i+1 == 3+len(p) {
			want = []int{3 + len(p)}
		}
		wantEnds(t, "byte by byte", f, b[i:i+1], want, i+1)
	}
}

// P17.1: Reset ahead of, in the midst of, and behind an occurrence.
func TestReset(t *testing.T) {
	t.Parallel()
	p := "aabaa"
	for n := range 2*len(p) + 1 {
		for _, times := range []int{1, 2} {
			f := finder(t, p)
			f.Feed([]byte((p + p)[:n]))
			for range times {
				f.Reset()
			}
			what := fmt.Sprint("reset behind ", n)
			if f.At() != 0 {
				t.Fatalf("%s: at %d", what, f.At())
			}
			wantEnds(t, what, f, "", nil, 0)
			wantEnds(t, what, f, "baa", nil, 3)
			wantEnds(t, what, f, "baa", []int{6}, 6)
		}
	}
	f := finder(t, p)
	f.Reset()
	wantEnds(t, "reset new", f, p+"baa", []int{5, 8}, 8)
}

// P17.1 and P17.3: long rows in parts of any length, with Reset now and then, held against the bytes since.
func TestFeedRandom(t *testing.T) {
	t.Parallel()
	for seed := range int64(300) {
		r := rand.New(rand.NewSource(seed))
		letters := 1 + r.Intn(3)
		p := drawn(r, 1+r.Intn(9), letters)
		f, came := finder(t, p), ""
		for range 60 {
			if r.Intn(12) == 0 {
				f.Reset()
				came = ""
			}
			b := drawn(r, r.Intn(3*len(p)), letters)
			var want []int
			for _, end := range ends(came+b, p) {
				if end > len(came) {
					want = append(want, end)
				}
			}
			came += b
			wantEnds(t, fmt.Sprintf("seed %d, %q", seed, p), f, b, want, len(came))
		}
	}
}

// drawn is a row of n bytes of so many letters.
func drawn(r *rand.Rand, n, letters int) string {
	b := make([]byte, n)
	for i := range b {
		b[i] = byte('a' + r.Intn(letters))
	}
	return string(b)
}

// P17.2: tables written out, and edges.
func TestFail(t *testing.T) {
	t.Parallel()
	for p, want := range map[string]string{
		"": "[]", "a": "[0]", "\x00": "[0]", "ab": "[0 0]", "aa": "[0 1]", "aaaa": "[0 1 2 3]", "aaab": "[0 1 2 0]",
		"abab": "[0 0 1 2]", "ababaca": "[0 0 1 2 3 0 1]", "aabaaab": "[0 1 0 1 2 2 3]", "abacabad": "[0 0 1 0 1 2 3 0]",
		"abcabd": "[0 0 0 1 2 0]", "aabaabaaa": "[0 1 0 1 2 3 4 5 2]", "abcdef": "[0 0 0 0 0 0]", "\xff\x00\xff": "[0 0 1]",
	} {
		if got := fmt.Sprint(kmp.Fail([]byte(p))); got != want {
			t.Errorf("Fail(%q): %s, want %s", p, got, want)
		}
	}
	if got := kmp.Fail(nil); len(got) != 0 {
		t.Errorf("Fail(nil): %v", got)
	}
}

// P17.2: Fail of all short patterns, and of longer ones.
func TestFailAll(t *testing.T) {
	t.Parallel()
	all := append(words("ab", 12), words("abc", 7)...)
	for seed := range int64(200) {
		r := rand.New(rand.NewSource(seed))
		part := drawn(r, 1+r.Intn(12), 2)
		all = append(all, drawn(r, 1+r.Intn(200), 2), strings.Repeat(part, 1+r.Intn(9))+part[:r.Intn(len(part))]+drawn(r, r.Intn(3), 3))
	}
	for _, p := range all {
		if got, want := kmp.Fail([]byte(p)), fail(p); !slices.Equal(got, want) {
			t.Fatalf("Fail(%q): %v, want %v", p, got, want)
		}
	}
}

// P17.2: Fail takes patterns that New refuses.
func TestFailLong(t *testing.T) {
	t.Parallel()
	n := 1 << 20
	got := kmp.Fail([]byte(strings.Repeat("a", n-1) + "b"))
	for i := range n - 1 {
		if got[i] != i {
			t.Fatalf("at %d: %d", i, got[i])
		}
	}
	if len(got) != n || got[n-1] != 0 {
		t.Errorf("%d answers, the last %d", len(got), got[n-1])
	}
}

// P17.2: First and Last of all short patterns in all short rows, from and before all their places and far ones.
func TestFirstLastAll(t *testing.T) {
	t.Parallel()
	for _, b := range append(words("ab", 7), words("abc", 4)...) {
		for _, p := range words("ab", 4) {
			wantFound(t, b, p)
		}
	}
	for _, p := range []string{"abababa", "aaaaaaa", "aaaaaab", "baaaaaa", "aaaaaaaa"} {
		for _, b := range words("ab", 9) {
			wantFound(t, b, p)
		}
	}
}

// wantFound holds First and Last against the words' own.
func wantFound(t *testing.T, b, p string) {
	t.Helper()
	at := slices.Clone(far)
	for i := -1; i <= len(b)+2; i++ {
		at = append(at, i)
	}
	for _, at := range at {
		if got, want := kmp.First([]byte(b), []byte(p), at), first(b, p, at); got != want {
			t.Fatalf("First(%.60q, %.60q, %d): %d, want %d", b, p, at, got, want)
		}
		if got, want := kmp.Last([]byte(b), []byte(p), at), last(b, p, at); got != want {
			t.Fatalf("Last(%.60q, %.60q, %d): %d, want %d", b, p, at, got, want)
		}
	}
}

// P17.2: edges written out.
func TestFirstLastEdges(t *testing.T) {
	t.Parallel()
	for _, c := range []struct {
		b, p                   string
		from, before, fst, lst int
	}{
		{"", "", 0, 0, -1, -1},
		{"", "", math.MinInt, math.MaxInt, -1, -1},
		{"", "a", 0, 1, -1, -1},
		{"abc", "", 0, 3, -1, -1},
		{"abc", "", 1, 9, -1, -1},
		{"ab", "abc", 0, 2, -1, -1},
		{"ab", "abc", math.MinInt, math.MaxInt, -1, -1},
		{"abc", "abc", 0, 1, 0, 0},
		{"abc", "abc", 1, 0, -1, -1},
		{"abc", "abd", 0, 9, -1, -1},
		{"abc", "abc", math.MinInt, math.MaxInt, 0, 0},
		{"aaa", "a", 2, 3, 2, 2},
		{"aaa", "a", 3, 4, -1, 2},
		{"aaa", "a", math.MaxInt, math.MinInt, -1, -1},
		{"aaaa", "aa", 1, 3, 1, 2},
		{"aaaa", "aa", 2, 2, 2, 1},
		{"aaaa", "aa", 3, 1, -1, 0},
		{"xabab", "ab", 2, 3, 3, 1},
		{"xabab", "ab", -9, 4, 1, 3},
		{"xabab", "ab", 4, -9, -1, -1},
	} {
		if got := kmp.First([]byte(c.b), []byte(c.p), c.from); got != c.fst {
			t.Errorf("First(%q, %q, %d): %d, want %d", c.b, c.p, c.from, got, c.fst)
		}
		if got := kmp.Last([]byte(c.b), []byte(c.p), c.before); got != c.lst {
			t.Errorf("Last(%q, %q, %d): %d, want %d", c.b, c.p, c.before, got, c.lst)
		}
	}
	for _, at := range append([]int{0, 1}, far...) {
		if f, l := kmp.First(nil, []byte("a"), at), kmp.Last(nil, []byte("a"), at); f != -1 || l != -1 {
			t.Errorf("in nil at %d: %d, %d", at, f, l)
		}
		if f, l := kmp.First([]byte("a"), nil, at), kmp.Last([]byte("a"), nil, at); f != -1 || l != -1 {
			t.Errorf("of nil at %d: %d, %d", at, f, l)
		}
		if f, l := kmp.First(nil, nil, at), kmp.Last(nil, nil, at); f != -1 || l != -1 {
			t.Errorf("of nil in nil at %d: %d, %d", at, f, l)
		}
	}
}

// P17.2: longer rows and patterns; patterns that New refuses are found, too.
func TestFirstLastLonger(t *testing.T) {
	t.Parallel()
	for seed := range int64(200) {
		r := rand.New(rand.NewSource(seed))
		letters := 1 + r.Intn(3)
		b := drawn(r, r.Intn(120), letters)
		p := drawn(r, r.Intn(12), letters)
		if n := len(b); n > 0 && r.Intn(2) == 0 {
			at := r.Intn(n)
			p = b[at : at+1+r.Intn(n-at)]
		}
		wantFound(t, b, p)
	}
	p := drawn(rand.New(rand.NewSource(7)), 3*api.MaxLine, 2)
	b := "ab" + p + "x" + p + "ba"
	if got := kmp.First([]byte(b), []byte(p), 0); got != 2 {
		t.Errorf("first %d, want 2", got)
	}
	if got := kmp.Last([]byte(b), []byte(p), len(b)); got != 3+len(p) {
		t.Errorf("last %d, want %d", got, 3+len(p))
	}
}

// R1: a row on which a search that tries every place would go on for long.
func TestLong(t *testing.T) {
	t.Parallel()
	n, m := 1<<23, api.MaxLine
	b := bytes.Repeat([]byte{'a'}, n)
	worst := strings.Repeat("a", m/2) + "b" + strings.Repeat("a", m-m/2-1)
	f := finder(t, worst)
	if got := f.Feed(b); len(got) != 0 || f.At() != n {
		t.Errorf("%d ends, at %d", len(got), f.At())
	}
	if one, two := kmp.First(b, []byte(worst), 0), kmp.Last(b, []byte(worst), n); one != -1 || two != -1 {
		t.Errorf("first %d, last %d", one, two)
	}
	f = finder(t, strings.Repeat("a", m))
	got := f.Feed(b)
	if len(got) != n-m+1 {
		t.Fatalf("%d ends", len(got))
	}
	for i, end := range got {
		if end != m+i {
			t.Fatalf("end %d: %d", i, end)
		}
	}
}

// R4: what is handed in is not changed, its spare room included, and may be changed afterwards.
func TestHandedIn(t *testing.T) {
	t.Parallel()
	roomy := func(s string) []byte { return append(make([]byte, 0, len(s)+8), s...) }
	unchanged := func(what string, b []byte, s string) {
		t.Helper()
		if string(b) != s || string(b[:cap(b)][len(s):]) != strings.Repeat("\x00", cap(b)-len(s)) {
			t.Errorf("%s: changed to %q", what, b[:cap(b)])
		}
	}
	p, b := roomy("aab"), roomy("aaabaab")
	p, b = p[:3:11], b[:7:15]
	f, _ := kmp.New(p)
	unchanged("New", p, "aab")
	for i := range p[:cap(p)] {
		p[:cap(p)][i] = 'x'
	}
	wantEnds(t, "its pattern was changed", f, "aaaba", []int{4}, 5)
	part := roomy("ab")
	f.Feed(part)
	unchanged("Feed", part, "ab")
	copy(part, "xx")
	f.Feed(b)
	unchanged("Feed", b, "aaabaab")
	f.Reset()
	f.Feed(b[:6])
	copy(b, "xxxxxxx")
	wantEnds(t, "its bytes were changed", f, "b", []int{7}, 7)
	p, b = roomy("aab"), roomy("aaabaab")
	for range 2 {
		if one, two := kmp.First(b, p, 2), kmp.Last(b, p, 4); one != 4 || two != 1 {
			t.Errorf("first %d, last %d", one, two)
		}
		kmp.Fail(p)
		unchanged("First and Last: p", p, "aab")
		unchanged("First and Last: b", b, "aaabaab")
	}
}

// R4: what is answered is new memory, its spare room included.
func TestAnswered(t *testing.T) {
	t.Parallel()
	spoil := func(l []int) {
		for i := range l[:cap(l)] {
			l[:cap(l)][i] = -7
		}
	}
	p := []byte("aabaa")
	f, _ := kmp.New(p)
	for n := range 20 {
		got := f.Feed([]byte("baaaabaa"))
		var want []int
		if n > 0 {
			want = append(want, 8*n+3)
		}
		if want = append(want, 8*n+8); !slices.Equal(got, want) {
			t.Fatalf("fed %d times: %v, want %v", n+1, got, want)
		}
		spoil(got)
		table := kmp.Fail(p)
		if !slices.Equal(table, []int{0, 1, 0, 1, 2}) {
			t.Fatalf("table %v", table)
		}
		spoil(table)
	}
	f.Reset()
	one := f.Feed([]byte("aabaabaa"))
	two := f.Feed([]byte("baabaa"))
	spoil(two)
	if !slices.Equal(one, []int{5, 8}) {
		t.Errorf("the first answer is %v now", one)
	}
}

// R5: finders know nothing of each other, be they of one pattern or not.
func TestApart(t *testing.T) {
	t.Parallel()
	one, two, three := finder(t, "aba"), finder(t, "aba"), finder(t, "bab")
	wantEnds(t, "one", one, "ab", nil, 2)
	wantEnds(t, "two", two, "a", nil, 1)
	wantEnds(t, "three", three, "ba", nil, 2)
	wantEnds(t, "one", one, "a", []int{3}, 3)
	one.Reset()
	wantEnds(t, "two", two, "baba", []int{3, 5}, 5)
	wantEnds(t, "three", three, "ba", []int{3}, 4)
	wantEnds(t, "one", one, "ba", nil, 2)
	var all sync.WaitGroup
	for i := range 8 {
		all.Go(func() {
			p := words("ab", 3)[1+i]
			f, _ := kmp.New([]byte(p))
			for n := range 200 {
				b := words("ab", 5)[n%63]
				f.Reset()
				if got := f.Feed([]byte(b)); !slices.Equal(got, ends(b, p)) {
					t.Errorf("%q in %q: %v", p, b, got)
				}
			}
		})
	}
	all.Wait()
}

// R7: of a finder that New did not make, nothing is told, and nothing comes to it.
func TestNotMade(t *testing.T) {
	t.Parallel()
	refused, _ := kmp.New(nil)
	for what, f := range map[string]*kmp.Finder{"nil": nil, "zero": {}, "refused": refused} {
		for range 2 {
			for _, b := range []string{"", "a", "\x00", "abc", strings.Repeat("\x00", 99)} {
				wantEnds(t, what, f, b, nil, 0)
			}
			if got := f.Feed(nil); len(got) != 0 || f.At() != 0 {
				t.Errorf("%s: fed nil: %v, at %d", what, got, f.At())
			}
			f.Reset()
		}
	}
}
