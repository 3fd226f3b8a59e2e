package index_test

import (
	"bytes"
	"fmt"
	"math"
	"math/rand"
	"slices"
	"testing"

	"escritoire/index"
)

// far places lie in no row.
var far = []int{math.MinInt, math.MinInt + 1, -1 << 32, -1 << 31, -11, -10, -2, -1, 1 << 20, 1 << 31, 1 << 32, 1<<32 + 1, 1 << 62, math.MaxInt - 1, math.MaxInt}

// rows of bytes: none with a byte 10, of bytes 10 alone, that begin or end with one, and others.
var rows = []string{
	"", "a", "\n", "ab", "\na", "a\n", "\n\n", "abc", "\n\n\n", "\nab\n", "ab\ncd", "ab\ncd\n", "\n\nab\n\ncd\n\n",
	"\x00\x09\x0a\x0b\x0d\xff", "\x8a\n\x8a", "a\nb\nc\nd\ne\nf\ng\nh\n",
}

// puts are what is put in.
var puts = []string{"", "x", "\n", "x\n", "\nx", "\n\n", "xyz", "\n\n\n\n", "x\ny\nz\n"}

// lines of a row as the chapter's words tell them: where each begins.
func lines(b []byte) []int {
	l := []int{0}
	for i, c := range b {
		if c == 10 {
			l = append(l, i+1)
		}
	}
	return l
}

func tens(b []byte) int { return bytes.Count(b, []byte{10}) }

// wantKnows holds all that the index tells against a plain row.
func wantKnows(t *testing.T, what string, x *index.Index, b []byte) {
	t.Helper()
	if got := x.Seen(); got != len(b) {
		t.Fatalf("%s: seen %d, want %d", what, got, len(b))
	}
	begins := lines(b)
	if got := x.Known(); got != len(begins)-1 {
		t.Fatalf("%s: known %d, want %d", what, got, len(begins)-1)
	}
	for k, want := range begins {
		if at, ok := x.Begin(k); at != want || !ok {
			t.Fatalf("%s: line %d begins at %d, %v; want %d", what, k, at, ok, want)
		}
	}
	for at := range len(b) + 1 {
		if k, ok := x.Line(at); k != tens(b[:at]) || !ok {
			t.Fatalf("%s: line of %d: %d, %v; want %d", what, at, k, ok, tens(b[:at]))
		}
	}
	for _, k := range []int{-3, -2, -1, len(begins), len(begins) + 1, len(begins) + 2} {
		wantNone(t, fmt.Sprint(what, ": begin of ", k))(x.Begin(k))
	}
	for _, at := range []int{-3, -2, -1, len(b) + 1, len(b) + 2, len(b) + 3} {
		wantNone(t, fmt.Sprint(what, ": line of ", at))(x.Line(at))
	}
}

// wantNone wants that there is nothing: 0 and false.
func wantNone(t *testing.T, what string) func(int, bool) {
	return func(got int, ok bool) {
		t.Helper()
		if got != 0 || ok {
			t.Fatalf("%s: %d, %v; want none", what, got, ok)
		}
	}
}

// having is an index that has seen these bytes.
func having(b string) *index.Index {
	x := index.New()
	x.Step([]byte(b))
	return x
}

// emptied is an index that has seen bytes and has forgotten them.
func emptied() *index.Index {
	x := having("ab\n\nc\n")
	x.Cut(0)
	return x
}

// cut is what is left of a row, by P16.2's words.
func cut(b []byte, at int) []byte {
	if at < 0 || at > len(b) {
		return b
	}
	return b[:at:at]
}

// edited is what is left of a row, by P16.2's words.
func edited(b []byte, at, old int, put []byte) []byte {
	switch {
	case at < 0 || old < 0 || at > len(b):
		return b
	case old > len(b) || at+old > len(b):
		return cut(b, at)
	}
	return slices.Concat(b[:at], put, b[at+old:])
}

func TestExamples(t *testing.T) {
	t.Parallel()
	x := index.New()
	x.Step([]byte("ab\nc"))
	x.Step([]byte("d\n"))
	one, ok1 := x.Begin(1)
	two, ok2 := x.Begin(2)
	k, ok3 := x.Line(4)
	if got := fmt.Sprint(one, ok1, two, ok2, k, ok3, x.Seen()); got != "3 true 6 true 1 true 6" {
		t.Errorf("stepped: %s", got)
	}
	x.Edit(1, 1, []byte("\n\n"))
	one, ok1 = x.Begin(1)
	if got := fmt.Sprint(one, ok1, x.Known(), x.Seen()); got != "2 true 4 7" {
		t.Errorf("edited: %s", got)
	}
}

// P16.1 on an index that has seen nothing, be it new or cut to nothing.
func TestNothingSeen(t *testing.T) {
	t.Parallel()
	for what, fresh := range map[string]func() *index.Index{"new": index.New, "cut to nothing": emptied} {
		wantKnows(t, what, fresh(), nil)
		x := fresh()
		x.Step(nil)
		x.Step([]byte{})
		x.Cut(0)
		x.Cut(1)
		x.Cut(-1)
		wantKnows(t, what+", nothing done", x, nil)
		for _, far := range far {
			wantNone(t, what+": begin")(x.Begin(far))
			wantNone(t, what+": line")(x.Line(far))
		}
		for _, put := range puts {
			for _, at := range append([]int{0, 1, 2}, far...) {
				for _, old := range append([]int{0, 1, 2}, far...) {
					x := fresh()
					x.Edit(at, old, []byte(put))
					wantKnows(t, fmt.Sprintf("%s, Edit(%d, %d, %q)", what, at, old, put), x, edited(nil, at, old, []byte(put)))
				}
			}
		}
		for _, row := range rows {
			x := fresh()
			x.Step([]byte(row))
			wantKnows(t, fmt.Sprintf("%s, Step(%q)", what, row), x, []byte(row))
		}
	}
}

// P16.1, written out: no other reckoning beside it.
func TestTold(t *testing.T) {
	t.Parallel()
	for _, c := range []struct {
		row    string
		begins []int
		lines  []int
	}{
		{"", []int{0}, []int{0}},
		{"ab", []int{0}, []int{0, 0, 0}},
		{"\n", []int{0, 1}, []int{0, 1}},
		{"\n\n\n", []int{0, 1, 2, 3}, []int{0, 1, 2, 3}},
		{"\nab", []int{0, 1}, []int{0, 1, 1, 1}},
		{"ab\n", []int{0, 3}, []int{0, 0, 0, 1}},
		{"a\n\nb\n", []int{0, 2, 3, 5}, []int{0, 0, 1, 2, 2, 3}},
		{"\r\x0b\x8a\n", []int{0, 4}, []int{0, 0, 0, 0, 1}},
	} {
		x := having(c.row)
		if x.Seen() != len(c.row) || x.Known() != len(c.begins)-1 {
			t.Errorf("%q: seen %d, known %d", c.row, x.Seen(), x.Known())
		}
		for k, want := range c.begins {
			if at, ok := x.Begin(k); at != want || !ok {
				t.Errorf("%q: line %d begins at %d, %v", c.row, k, at, ok)
			}
		}
		for at, want := range c.lines {
			if k, ok := x.Line(at); k != want || !ok {
				t.Errorf("%q: line of %d: %d, %v", c.row, at, k, ok)
			}
		}
		for _, far := range append([]int{len(c.begins)}, far...) {
			wantNone(t, "begin")(x.Begin(far))
		}
		for _, far := range append([]int{len(c.row) + 1}, far...) {
			wantNone(t, "line")(x.Line(far))
		}
		wantKnows(t, c.row, x, []byte(c.row))
	}
}

// short are all rows of up to so many bytes that are 10 or not.
func short(most int) []string {
	all := []string{""}
	for first := 0; most > 0; most-- {
		last := len(all)
		for _, s := range all[first:last] {
			all = append(all, s+"a", s+"\n")
		}
		first = last
	}
	return all
}

// P16.3: the same bytes in whatever steps, some of them of nothing.
func TestSteps(t *testing.T) {
	t.Parallel()
	for _, row := range append(short(7), rows...) {
		b := []byte(row)
		for ways := range 1 << max(0, min(len(b), 10)-1) {
			x := index.New()
			from := 0
			for i := 1; i <= len(b); i++ {
				if i == len(b) || ways>>(i-1)%2 == 1 {
					x.Step(b[from:i])
					x.Step(nil)
					wantKnows(t, fmt.Sprintf("%q up to %d", row, i), x, b[:i])
					from = i
				}
			}
			wantKnows(t, fmt.Sprintf("%q in steps", row), x, b)
		}
	}
}

// P16.2: Cut at each place of a row and beside it; what is seen behind it is seen anew.
func TestCut(t *testing.T) {
	t.Parallel()
	for _, row := range append(short(5), rows...) {
		places := slices.Clone(far)
		for at := -2; at <= len(row)+2; at++ {
			places = append(places, at)
		}
		for _, at := range places {
			x, b := having(row), []byte(row)
			what := fmt.Sprintf("%q, Cut(%d)", row, at)
			x.Cut(at)
			b = cut(b, at)
			wantKnows(t, what, x, b)
			x.Cut(at)
			wantKnows(t, what+" once more", x, cut(b, at))
			x.Step([]byte("\n\nz\n"))
			b = append(b, "\n\nz\n"...)
			wantKnows(t, what+" and a step", x, b)
			x.Cut(len(b) - 1)
			wantKnows(t, what+" and a cut behind that", x, b[:len(b)-1])
		}
	}
}

// P16.2, written out: what a cut leaves.
func TestCutTold(t *testing.T) {
	t.Parallel()
	for _, c := range []struct{ at, seen, known int }{
		{math.MinInt, 7, 3}, {-1, 7, 3}, {0, 0, 0}, {1, 1, 0}, {2, 2, 1}, {3, 3, 2}, {4, 4, 2}, {6, 6, 2}, {7, 7, 3}, {8, 7, 3}, {math.MaxInt, 7, 3},
	} {
		x := having("a\n\nbcd\n")
		x.Cut(c.at)
		if x.Seen() != c.seen || x.Known() != c.known {
			t.Errorf("Cut(%d): seen %d, known %d; want %d, %d", c.at, x.Seen(), x.Known(), c.seen, c.known)
		}
	}
}

// P16.2, written out: what an edit leaves.
func TestEditTold(t *testing.T) {
	t.Parallel()
	for _, c := range []struct {
		at, old int
		put     string
		want    string
	}{
		{0, 0, "", "a\n\nbcd\n"},
		{0, 0, "\nx", "\nxa\n\nbcd\n"},
		{7, 0, "", "a\n\nbcd\n"},
		{7, 0, "x\n", "a\n\nbcd\nx\n"},
		{1, 1, "", "a\nbcd\n"},
		{1, 1, "x", "ax\nbcd\n"},
		{1, 2, "\n", "a\nbcd\n"},
		{2, 0, "x", "a\nx\nbcd\n"},
		{2, 0, "\n", "a\n\n\nbcd\n"},
		{3, 0, "\n", "a\n\n\nbcd\n"},
		{4, 1, "\n", "a\n\nb\nd\n"},
		{6, 1, "", "a\n\nbcd"},
		{0, 7, "", ""},
		{0, 7, "\n\n", "\n\n"},
		{1, 6, "xy\n", "axy\n"},
		{1, 7, "xy\n", "a"},
		{2, 6, "\n", "a\n"},
		{7, 1, "\n", "a\n\nbcd\n"},
		{0, 8, "\n", ""},
		{0, math.MaxInt, "\n", ""},
		{1, math.MaxInt, "\n", "a"},
		{3, math.MaxInt - 1, "\n", "a\n\n"},
		{7, math.MaxInt, "\n", "a\n\nbcd\n"},
		{8, 0, "\n", "a\n\nbcd\n"},
		{8, math.MaxInt, "\n", "a\n\nbcd\n"},
		{math.MaxInt, 0, "\n", "a\n\nbcd\n"},
		{math.MaxInt, math.MaxInt, "\n", "a\n\nbcd\n"},
		{-1, 0, "\n", "a\n\nbcd\n"},
		{-1, 1, "\n", "a\n\nbcd\n"},
		{-1, 9, "\n", "a\n\nbcd\n"},
		{0, -1, "\n", "a\n\nbcd\n"},
		{7, -7, "\n", "a\n\nbcd\n"},
		{7, -1, "\n", "a\n\nbcd\n"},
		{math.MinInt, math.MinInt, "\n", "a\n\nbcd\n"},
		{math.MinInt, math.MaxInt, "\n", "a\n\nbcd\n"},
		{1, math.MinInt, "\n", "a\n\nbcd\n"},
	} {
		x := having("a\n\nbcd\n")
		x.Edit(c.at, c.old, []byte(c.put))
		wantKnows(t, fmt.Sprintf("Edit(%d, %d, %q)", c.at, c.old, c.put), x, []byte(c.want))
	}
}

// P16.2 and P16.3: each edit of short rows, and an index that is stepped over what it leaves.
func TestEdit(t *testing.T) {
	t.Parallel()
	for _, row := range short(5) {
		for at := -1; at <= len(row)+1; at++ {
			for _, old := range append([]int{math.MaxInt, 1 << 62}, span(-1, len(row)+2)...) {
				for _, put := range puts {
					x, what := having(row), fmt.Sprintf("%q, Edit(%d, %d, %q)", row, at, old, put)
					x.Edit(at, old, []byte(put))
					b := edited([]byte(row), at, old, []byte(put))
					wantKnows(t, what, x, b)
					y := having(string(b))
					x.Step([]byte("\nz"))
					y.Step([]byte("\nz"))
					wantKnows(t, what+" and a step", x, append(b, "\nz"...))
					wantAlike(t, what, x, y)
				}
			}
		}
	}
}

func span(first, last int) []int {
	var l []int
	for i := first; i <= last; i++ {
		l = append(l, i)
	}
	return l
}

// wantAlike wants that two indices tell the same.
func wantAlike(t *testing.T, what string, x, y *index.Index) {
	t.Helper()
	if x.Seen() != y.Seen() || x.Known() != y.Known() {
		t.Fatalf("%s: %d and %d seen, %d and %d known", what, x.Seen(), y.Seen(), x.Known(), y.Known())
	}
	for k := -1; k <= x.Known()+1; k++ {
		a, aOk := x.Begin(k)
		b, bOk := y.Begin(k)
		if a != b || aOk != bOk {
			t.Fatalf("%s: line %d begins at %d, %v and %d, %v", what, k, a, aOk, b, bOk)
		}
	}
	for at := -1; at <= x.Seen()+1; at++ {
		a, aOk := x.Line(at)
		b, bOk := y.Line(at)
		if a != b || aOk != bOk {
			t.Fatalf("%s: line of %d: %d, %v and %d, %v", what, at, a, aOk, b, bOk)
		}
	}
}

// Rows of calls, held against a plain row of bytes behind each.
func TestCalls(t *testing.T) {
	t.Parallel()
	for seed := range int64(60) {
		draw := rand.New(rand.NewSource(seed))
		x, b := index.New(), []byte(nil)
		for call := range 150 {
			put := someBytes(draw, draw.Intn(1+draw.Intn(12)))
			at, old := draw.Intn(len(b)+3)-1, draw.Intn(8)-1
			what := ""
			switch draw.Intn(6) {
			case 0, 1:
				what = fmt.Sprintf("Step(%q)", put)
				x.Step(put)
				b = slices.Concat(b, put)
			case 2:
				at = len(b) + 2 - draw.Intn(10)
				what = fmt.Sprintf("Cut(%d)", at)
				x.Cut(at)
				b = cut(b, at)
			default:
				if draw.Intn(20) == 0 {
					old = math.MaxInt - draw.Intn(3)
				}
				what = fmt.Sprintf("Edit(%d, %d, %q)", at, old, put)
				x.Edit(at, old, put)
				b = edited(b, at, old, put)
			}
			wantKnows(t, fmt.Sprint("row ", seed, ", call ", call, ": ", what), x, b)
		}
	}
}

// someBytes has a byte 10 now and then, or often, or alone.
func someBytes(draw *rand.Rand, n int) []byte {
	b, kinds := make([]byte, n), 1+draw.Intn(4)
	for i := range b {
		b[i] = byte(10 + draw.Intn(kinds))
	}
	return b
}

// R4: what is handed in is not changed, spare room included, and may be changed behind the call.
func TestHandedIn(t *testing.T) {
	t.Parallel()
	for what, call := range map[string]func(x *index.Index, b []byte){
		"Step":      func(x *index.Index, b []byte) { x.Step(b) },
		"Edit":      func(x *index.Index, b []byte) { x.Edit(2, 3, b) },
		"Edit last": func(x *index.Index, b []byte) { x.Edit(x.Seen(), 0, b) },
		"Edit cut":  func(x *index.Index, b []byte) { x.Edit(4, 100, b) },
		"Edit none": func(x *index.Index, b []byte) { x.Edit(-1, 1, b) },
	} {
		whole := []byte("\nx\n\nyz\n\n\n\n")
		b := whole[2:6]
		x, y := having("a\nbc\n\nd"), having("a\nbc\n\nd")
		call(x, b)
		if string(whole) != "\nx\n\nyz\n\n\n\n" {
			t.Errorf("%s: changed to %q", what, whole)
		}
		for i := range whole {
			whole[i] = byte(10 - whole[i]%2)
		}
		call(y, []byte("\n\nyz"))
		wantAlike(t, what, x, y)
	}
}

// R3, R5: what tells does not change, and two indices know nothing of each other.
func TestApart(t *testing.T) {
	t.Parallel()
	x, y := having("a\nb\n"), having("\n\n\n")
	x.Edit(1, 1, []byte("\n\n"))
	y.Cut(2)
	y.Step([]byte("cd\n"))
	for range 3 {
		wantKnows(t, "one", x, []byte("a\n\nb\n"))
		wantKnows(t, "the other", y, []byte("\n\ncd\n"))
	}
}

// R7: of nil, and of what New did not make.
func TestNotMade(t *testing.T) {
	t.Parallel()
	for what, x := range map[string]*index.Index{"nil": nil, "not made": {}, "new by Go": new(index.Index)} {
		for range 2 {
			if x.Seen() != 0 || x.Known() != 0 {
				t.Errorf("%s: seen %d, known %d", what, x.Seen(), x.Known())
			}
			for _, n := range append([]int{0, 1, 2}, far...) {
				wantNone(t, what+": begin")(x.Begin(n))
				wantNone(t, what+": line")(x.Line(n))
			}
			x.Step([]byte("a\n"))
			x.Edit(0, 0, []byte("a\n"))
			x.Edit(0, 1, []byte("a\n"))
			x.Cut(0)
			x.Cut(1)
		}
	}
}

// As many bytes as a text may have, in steps of pages, with changes at both ends and within.
func TestLong(t *testing.T) {
	t.Parallel()
	b := bytes.Repeat([]byte("\n\nab"), 1<<18)
	x := index.New()
	for from := 0; from < len(b); from += 248 {
		x.Step(b[from:min(from+248, len(b))])
	}
	wantSome := func(what string) {
		t.Helper()
		begins := lines(b)
		if x.Seen() != len(b) || x.Known() != len(begins)-1 {
			t.Fatalf("%s: seen %d, known %d; want %d, %d", what, x.Seen(), x.Known(), len(b), len(begins)-1)
		}
		ahead := 0
		for at := range len(b) + 1 {
			if k, ok := x.Line(at); k != ahead || !ok {
				t.Fatalf("%s: line of %d: %d, %v; want %d", what, at, k, ok, ahead)
			}
			if at < len(b) && b[at] == 10 {
				ahead++
			}
		}
		for k, want := range begins {
			if at, ok := x.Begin(k); at != want || !ok {
				t.Fatalf("%s: line %d begins at %d, %v; want %d", what, k, at, ok, want)
			}
		}
	}
	wantSome("stepped")
	for _, c := range []struct {
		at, old int
		put     string
	}{{0, 3, "\n"}, {1 << 19, 1, "\n\n\n"}, {1 << 19, 1 << 18, ""}, {5, 0, "xyz"}, {1 << 18, math.MaxInt, "\n"}} {
		x.Edit(c.at, c.old, []byte(c.put))
		b = edited(b, c.at, c.old, []byte(c.put))
		wantSome(fmt.Sprintf("Edit(%d, %d, %q)", c.at, c.old, c.put))
	}
}
