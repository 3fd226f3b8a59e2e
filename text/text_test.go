package text_test

import (
	"bytes"
	"fmt"
	"math"
	"slices"
	"testing"

	"escritoire/api"
	"escritoire/cell"
	"escritoire/store"
	"escritoire/super"
	"escritoire/text"
	"escritoire/tree"
)

func TestExamples(t *testing.T) {
	x, e := text.Open(formatted(t, 16, 8))
	wantSays(t, "Open", e, api.OK)
	wantSays(t, "Insert(0)", x.Insert(0, []byte("ab\ncd")), api.OK)
	if at, e := x.Begin(1); x.Len() != 5 || x.Lines() != 1 || at != 3 || e != api.OK {
		t.Errorf("Len %d, Lines %d, Begin(1) = %d, %v", x.Len(), x.Lines(), at, e)
	}
	if k, e := x.Line(3); k != 1 || e != api.OK {
		t.Errorf("Line(3) = %d, %v", k, e)
	}
	if b, e := x.Read(1, 3); string(b) != "b\nc" || e != api.OK {
		t.Errorf("Read(1, 3) = %q, %v", b, e)
	}
	wantSays(t, "Insert(5)", x.Insert(5, []byte("!")), api.OK)
	before := x.Pieces()
	one, e := x.Step()
	after := x.Pieces()
	two, f := x.Step()
	if before != 2 || !one || e != api.OK || after != 1 || two || f != api.OK {
		t.Errorf("Pieces %d, Step %v, %v, Pieces %d, Step %v, %v", before, one, e, after, two, f)
	}
}

// shapes are texts of none, one and many pieces; those of the first ones are short, so that all places can be tried.
var shapes = [][]int{{}, {1}, {5}, {3, 1, 4, 2, 6}, {1, 1, 1, 1, 1, 1, 1, 1, 1, 1, 1, 1, 1, 1, 1, 1, 1, 1, 1, 1, 1, 1, 1}, {248}, {247, 1}, {496, 10}, {200, 248, 100, 700, 3}}

// P15.1: of a new store the text is empty, and has no state.
func TestOpenOfNothing(t *testing.T) {
	k := deskOf(t, 16, 8)
	k.wantNow("a new store")
	if b, e := k.x.State(); len(b) != 0 || e != api.OK {
		t.Errorf("State = %q, %v, want none", b, e)
	}
	if k.x.Store() != k.s {
		t.Errorf("Store is another one")
	}
	for what, s := range map[string]*store.Store{"nil": nil, "made by nobody": {}} {
		if x, e := text.Open(s); x != nil || e != api.ErrArg {
			t.Errorf("Open of %s = %v, %v, want none, argument", what, x, e)
		}
	}
}

// P15.1: of each text that was committed Open makes that text, in another store and in the same; what was not committed is not in it.
func TestOpenAgain(t *testing.T) {
	for _, shape := range append(shapes, slices.Repeat([]int{3}, 300)) {
		k := grown(t, 400, 8, shape...)
		what := fmt.Sprint(len(k.l), " pieces")
		k.commit(what, what)
		sure := k.row
		k.insert(what, len(k.b)/2, []byte("new"))
		x, e := text.Open(k.s)
		wantSays(t, what+": Open of the same store", e, api.OK)
		wantText(t, what+": the same store", x, sure)
		_, x = opened(t, what, k.s.Device().Crash(nil))
		wantText(t, what+": another store", x, sure)
	}
}

// naming is a store whose superblock names the last one of these pages as its Root; the first one is page 3.
func naming(t *testing.T, n api.Super, pages ...[]byte) *store.Store {
	t.Helper()
	s := formatted(t, 16, 8)
	for _, b := range pages {
		page, e := s.Alloc()
		wantSays(t, "Alloc", e, api.OK)
		wantSays(t, "Write", s.Write(page, b), api.OK)
		n.Root = page
	}
	wantSays(t, "Commit", s.Commit(n, nil), api.OK)
	return s
}

// P15.1: ErrCorrupt, where a superblock names a tree that is none.
func TestOpenOfNoTree(t *testing.T) {
	leaf := func(l ...api.Piece) []byte { b, _ := cell.Leaf(l); return b }
	inner := func(level int, l ...api.Kid) []byte { b, _ := cell.Inner(level, l); return b }
	words, _ := cell.Bytes([]byte("ab\ncd"))
	for what, x := range map[string]struct {
		b []byte
		n api.Super
	}{
		"noughts":     {make([]byte, 256), api.Super{Height: 1, Bytes: 5, Lines: 1}},
		"a text page": {words, api.Super{Height: 1, Bytes: 5, Lines: 1}},
		"more bytes":  {leaf(api.Piece{Page: 3, Len: 5, Lines: 1}), api.Super{Height: 1, Bytes: 6, Lines: 1}},
		"more lines":  {leaf(api.Piece{Page: 3, Len: 5, Lines: 1}), api.Super{Height: 1, Bytes: 5, Lines: 2}},
		"less lines":  {leaf(api.Piece{Page: 3, Len: 5, Lines: 1}), api.Super{Height: 1, Bytes: 5}},
		"a height":    {leaf(api.Piece{Page: 3, Len: 5, Lines: 1}), api.Super{Height: 2, Bytes: 5, Lines: 1}},
		"a level":     {inner(2, api.Kid{Page: 3, Pieces: 1, Bytes: 5, Lines: 1}), api.Super{Height: 2, Bytes: 5, Lines: 1}},
	} {
		s := naming(t, x.n, words, x.b)
		if got, e := text.Open(s); got != nil || e != api.ErrCorrupt {
			t.Errorf("%s: Open = %v, %v, want none, corrupt", what, got, e)
		}
	}
}

// P15.1: all places and lengths of short texts, many of long ones, and such as no text has.
func TestRead(t *testing.T) {
	for _, shape := range shapes {
		k := grown(t, 64, 8, shape...)
		end := len(k.b)
		try := func(at, n int) {
			t.Helper()
			if 0 <= at && at <= end && 0 <= n && n <= end-at {
				wantRead(t, fmt.Sprint(shape), k.x, k.row, at, n)
				return
			}
			if b, e := k.x.Read(at, n); len(b) != 0 || e != api.ErrArg {
				t.Fatalf("%v: Read(%d, %d) = %q, %v, want none, argument", shape, at, n, b, e)
			}
		}
		for at := -2; at < end+3; at += 1 + end/60 {
			for n := -2; n < end+3; n += 1 + end/60 {
				try(at, n)
			}
		}
		for i := range len(k.l) + 1 {
			for j := range len(k.l) + 1 {
				for d := range 9 {
					try(k.begin(i)+d%3-1, k.begin(j)-k.begin(i)+d/3-1)
				}
			}
		}
		for _, at := range append(far, 0, 1, end-1, end, end+1) {
			for _, n := range append(far, 0, 1, end-1, end, end+1) {
				try(at, n)
			}
			try(at, end-at)
			try(at, end-at+1)
			try(at, -at)
			try(at, math.MaxInt-at)
		}
		k.wantNow("all was read")
	}
}

// P15.1: all lines and places of short texts, many of long ones, and such as no text has.
func TestBeginAndLine(t *testing.T) {
	for _, shape := range append(shapes, slices.Repeat([]int{7}, 250)) {
		k := grown(t, 400, 8, shape...)
		end, last := len(k.b), k.lines()
		for line := -2; line < last+3; line += 1 + last/200 {
			k.wantBegin(line)
		}
		for _, line := range append(far, 0, 1, last-1, last, last+1, end) {
			k.wantBegin(line)
		}
		for at := -2; at < end+3; at += 1 + end/500 {
			k.wantLine(at)
		}
		for _, at := range append(far, 0, 1, end-1, end, end+1, end+2) {
			k.wantLine(at)
		}
		for i := range min(len(k.l)+1, 100) {
			k.wantLine(k.begin(i) - 1)
			k.wantLine(k.begin(i))
			k.wantLine(k.begin(i) + 1)
		}
	}
}

// P15.1: texts of bytes 10 alone, of none, and with one at each place.
func TestFewLinesAndMany(t *testing.T) {
	ask := func(texts ...[]byte) {
		t.Helper()
		k := deskOf(t, 64, 8)
		for _, b := range texts {
			k.insert("lines", len(k.b), b)
		}
		k.wantNow("lines")
		for i := -1; i < len(k.b)+2; i++ {
			k.wantBegin(i)
			k.wantLine(i)
		}
	}
	for _, n := range []int{1, 5, 248, 249} {
		ask(make([]byte, n))
		ask(bytes.Repeat([]byte{10}, n))
		ask(make([]byte, n), bytes.Repeat([]byte{10}, n), make([]byte, n))
		ask(bytes.Repeat([]byte{10}, n), make([]byte, n), make([]byte, n), bytes.Repeat([]byte{10}, n))
	}
	for at := range 9 {
		b := []byte("abcdefghi")
		b[at] = 10
		ask(b)
		ask(b[:3], b[3:6], b[6:])
		ask(b, b, b)
	}
}

// sizes of what is put in: less than a page holds, just as much, and more.
var sizes = []int{1, 2, 9, 247, 248, 249, 495, 496, 497, 1000}

// places are all of a short text; of a long one those at its seams, and some between.
func (r row) places() []int {
	var l []int
	for i := range len(r.l) {
		b, n := r.begin(i), r.l[i].n
		l = append(l, b, b+1, b+n/2, b+n-1, b+n)
	}
	if len(r.b) < 30 {
		l = l[:0]
		for at := range len(r.b) {
			l = append(l, at)
		}
	}
	l = append(l, len(r.b))
	slices.Sort(l)
	return slices.Compact(l)
}

// ways are how a text stands ahead of a call: with its pages own, or used, or with a point.
const ways = 3

// each does something to a text of a shape that stands in one of the ways, and looks at the text, and at the device behind a commit.
func each(t *testing.T, shape []int, way int, do func(k *desk)) {
	t.Helper()
	k := grown(t, 64, 8, shape...)
	switch way % ways {
	case 1:
		k.commit("ahead", "ahead")
	case 2:
		k.keep()
	}
	do(k)
	k.wantNow(fmt.Sprint(shape))
	k.commit("behind", "behind")
}

// P15.2: at all places of each shape bytes of each size are put in.
func TestInsert(t *testing.T) {
	t.Parallel()
	for _, shape := range shapes {
		for way, at := range grown(t, 64, 8, shape...).places() {
			for i, n := range sizes {
				each(t, shape, way+i, func(k *desk) { k.insert(fmt.Sprint(shape), at, k.some(n)) })
			}
		}
	}
}

// P15.2: from each place of each shape to each other one the bytes are taken out: within a piece, over several, from seam to seam, the whole.
func TestDelete(t *testing.T) {
	t.Parallel()
	for _, shape := range shapes {
		places := grown(t, 64, 8, shape...).places()
		for i, from := range places {
			for way, to := range places[i:] {
				each(t, shape, way, func(k *desk) { k.delete(fmt.Sprint(shape), from, to-from) })
			}
		}
	}
}

// P15.2: places and lengths that are none; no bytes: nothing is done, whatever the device says.
func TestRefused(t *testing.T) {
	for _, shape := range shapes {
		k := grown(t, 64, 8, shape...)
		ahead, end := stands(k), len(k.b)
		for _, at := range append(far, end+1, end+2) {
			for _, b := range [][]byte{nil, {1}, make([]byte, 700), make([]byte, 1<<20+1)} {
				k.wantRefused(fmt.Sprintf("Insert(%d) of %d", at, len(b)), k.x.Insert(at, b), api.ErrArg, ahead)
			}
			for _, n := range append(far, 0, 1, end, -at) {
				k.wantRefused(fmt.Sprintf("Delete(%d, %d)", at, n), k.x.Delete(at, n), api.ErrArg, ahead)
			}
		}
		for at := range end + 1 {
			for _, n := range append(far, end-at+1, math.MaxInt-at, math.MinInt+at) {
				k.wantRefused(fmt.Sprintf("Delete(%d, %d)", at, n), k.x.Delete(at, n), api.ErrArg, ahead)
			}
		}
		k.s.Evict(99)
		k.s.Device().Outcomes([]byte{1})
		for at := range end + 1 {
			k.wantRefused(fmt.Sprintf("Insert(%d) of nil", at), k.x.Insert(at, nil), api.OK, ahead)
			k.wantRefused(fmt.Sprintf("Insert(%d) of none", at), k.x.Insert(at, make([]byte, 0, 9)), api.OK, ahead)
			k.wantRefused(fmt.Sprintf("Delete(%d, 0)", at), k.x.Delete(at, 0), api.OK, ahead)
		}
		k.s.Device().Sync()
		k.wantNow("nothing was done")
	}
}

// longest is a text of MaxText bytes, which no device has room for unless pieces share a page: all of them are on one, laid by hand.
func longest(t *testing.T, frames int) *desk {
	t.Helper()
	k := &desk{t: t, frames: frames, s: formatted(t, 600, frames)}
	words := bytes.Repeat([]byte("some words\n"), 23)[:body]
	b, _ := cell.Bytes(words)
	page, e := k.s.Alloc()
	wantSays(t, "Alloc", e, api.OK)
	wantSays(t, "Write", k.s.Write(page, b), api.OK)
	x, e := tree.New(k.s, k.s.Super())
	wantSays(t, "tree.New", e, api.OK)
	k.texts, k.since = [][]byte{words}, 1
	var l []api.Piece
	for n := 1 << 20; n > 0; n -= body {
		p := words[:min(n, body)]
		l = append(l, api.Piece{Page: page, Len: len(p), Lines: bytes.Count(p, []byte{10})})
		k.b, k.l = append(k.b, p...), append(k.l, part{0, 0, len(p)})
	}
	x, e = x.Splice(0, 0, l)
	wantSays(t, "Splice", e, api.OK)
	n := api.Super{Bytes: x.Bytes(), Lines: x.Lines()}
	n.Root, n.Height = x.Root()
	wantSays(t, "Commit", k.s.Commit(n, nil), api.OK)
	k.x, e = text.Open(k.s)
	wantSays(t, "Open", e, api.OK)
	k.committed("longest", "")
	return k
}

// P15.2: MaxText bytes and one more; a page with many pieces is dropped when the last one goes.
func TestLength(t *testing.T) {
	t.Parallel()
	k := longest(t, 8)
	end := 1 << 20
	long := func(what string, at, n int) {
		t.Helper()
		ahead := stands(k)
		k.s.Evict(99)
		k.s.Device().Outcomes([]byte{1})
		k.wantRefused(what, k.x.Insert(at, make([]byte, n)), api.ErrLong, ahead)
		k.s.Device().Sync()
	}
	for _, at := range []int{0, 1, body, body + 1, end / 2, end - 1, end} {
		long(fmt.Sprint("one byte at ", at), at, 1)
		long(fmt.Sprint("as many again at ", at), at, end)
		k.wantRefused("none", k.x.Insert(at, nil), api.OK, stands(k))
	}
	ahead := stands(k)
	k.wantRefused("one byte behind it", k.x.Insert(end+1, []byte{1}), api.ErrArg, ahead)
	k.wantRefused("one byte ahead of it", k.x.Insert(-1, []byte{1}), api.ErrArg, ahead)
	k.delete("one byte less", 1000, 1)
	long("two bytes", 7, 2)
	k.insert("one byte", 7, []byte{1})
	long("one byte more", 7, 1)
	k.commit("one byte", "one byte")
	free := k.s.Free()
	k.delete("all but a byte", 0, end-1)
	k.commit("all but a byte", "")
	k.delete("the last byte", 0, 1)
	k.commit("the last byte", "")
	if k.s.Free() <= free || k.s.Free() != 600-3 {
		t.Errorf("%d pages are free", k.s.Free())
	}
}

// P15.2: so many bytes that the text would be too long are ErrLong; of so many that it would be just as long there is no room on any device.
func TestTooManyAtOnce(t *testing.T) {
	t.Parallel()
	for _, pages := range []int{16, 4096} {
		k := grown(t, pages, 8, 5)
		ahead := stands(k)
		k.keep()
		for _, n := range []int{1<<20 - 4, 1 << 20, 1<<20 + 1, 1 << 21} {
			k.wantRefused(fmt.Sprint(n, " bytes"), k.x.Insert(3, make([]byte, n)), api.ErrLong, ahead)
		}
		wantSays(t, "just as long", k.x.Insert(3, make([]byte, 1<<20-5)), api.ErrFull)
		k.wantNow("no room")
		k.back("no room")
		if now := stands(k); now != ahead {
			t.Errorf("%s, was %s", now, ahead)
		}
		k.commit("no room", "")
	}
}

// P15.2: which pages are dropped, looked at by their numbers.
func TestDrops(t *testing.T) {
	for _, commits := range []bool{false, true} {
		k := grown(t, 32, 8, 10)
		page := k.textPage()
		if commits {
			k.commit("ten bytes", "")
		}
		// A page that is given up says ErrState when it is given up once more.
		want := func(what string, stays bool) {
			t.Helper()
			k.wantNow(what)
			k.x.Keep()
			if e := k.s.Drop(page); (e == api.OK) != stays {
				t.Errorf("%s (commits: %v): Drop(%d): %v", what, commits, page, e)
			}
			k.x.Back()
		}
		want("all of it", true)
		k.insert("in the midst", 4, []byte("new"))
		want("two pieces", true)
		k.delete("the first part", 0, 4)
		want("the second part", true)
		k.delete("of the second part", 4, 4)
		want("its two ends", true)
		k.delete("the first end", 3, 1)
		want("the last end", true)
		k.delete("the last end", 3, 1)
		want("none of it", false)
		k.commit("none of it", "")
	}
}

// textPage is the first of the text pages that are own.
func (k *desk) textPage() int {
	k.t.Helper()
	for _, page := range own(k.s) {
		b, e := k.s.Read(page)
		wantSays(k.t, "Read", e, api.OK)
		if b[4] == 4 {
			return page
		}
	}
	k.t.Fatal("no text page is own")
	return 0
}

// P15.2: what is put in has pages of its own, even if it is what stands beside it, and the room there would be enough.
func TestEachInsertHasItsPage(t *testing.T) {
	k := deskOf(t, 64, 8)
	for i := range 25 {
		k.insert("one by one", i, []byte{'a'})
		k.wantNow("one by one")
	}
	if k.x.Pieces() != 25 {
		t.Errorf("%d pieces", k.x.Pieces())
	}
	k.commit("one by one", "")
}

// Text pages that are written over: calls that need them say ErrCorrupt, and change nothing; what they do not need is told.
func TestPagesThatAreNone(t *testing.T) {
	words := bytes.Repeat([]byte("words\n"), 16)
	other, _ := cell.Bytes(bytes.Repeat([]byte{10}, 96))
	short, _ := cell.Bytes([]byte("ab"))
	less, _ := cell.Bytes(words[:95])
	leaf, _ := cell.Leaf([]api.Piece{{Page: 3, Len: 96}})
	for what, bad := range map[string][]byte{"noughts": make([]byte, 256), "a leaf": leaf, "few bytes": short, "a byte less": less, "other lines": other} {
		k := deskOf(t, 32, 8)
		k.insert("words", 0, words)
		page := k.textPage()
		good, e := k.s.Read(page)
		wantSays(t, "Read", e, api.OK)
		// The bytes behind the new ones are a piece that does not begin where its page does.
		k.insert("in the midst", 30, []byte("new"))
		wantSays(t, "Write", k.s.Write(page, bad), api.OK)
		ahead := stands(k)
		if b, e := k.x.Read(40, 9); len(b) != 0 || e != api.ErrCorrupt {
			t.Errorf("%s: Read = %q, %v", what, b, e)
		}
		if at, e := k.x.Begin(9); at != 0 || e != api.ErrCorrupt {
			t.Errorf("%s: Begin = %d, %v", what, at, e)
		}
		if line, e := k.x.Line(40); line != 0 || e != api.ErrCorrupt {
			t.Errorf("%s: Line = %d, %v", what, line, e)
		}
		// Of the first two pieces the last byte is none.
		if what != "a byte less" {
			ok, e := k.x.Step()
			k.wantRefused(what, e, api.ErrCorrupt, ahead)
			if ok {
				t.Errorf("%s: Step", what)
			}
		}
		k.wantRefused(what, k.x.Insert(40, []byte("new")), api.ErrCorrupt, ahead)
		k.wantRefused(what, k.x.Delete(40, 3), api.ErrCorrupt, ahead)
		wantRead(t, what, k.x, k.row, 30, 3)
		wantSays(t, "Write", k.s.Write(page, good), api.OK)
		k.wantNow(what)
		k.commit(what, "")
	}
}

// What is none of a text below its Root: Open says so, or the call that reads it.
func TestNoTextBelow(t *testing.T) {
	leaf, _ := cell.Leaf([]api.Piece{{Page: 4095, Len: 5, Lines: 1}})
	inner, _ := cell.Inner(1, []api.Kid{{Page: 3, Pieces: 1, Bytes: 5, Lines: 1}})
	far, _ := cell.Inner(1, []api.Kid{{Page: 4095, Pieces: 1, Bytes: 5, Lines: 1}})
	words, _ := cell.Bytes([]byte("ab\ncd"))
	n := api.Super{Height: 1, Bytes: 5, Lines: 1}
	m := api.Super{Height: 2, Bytes: 5, Lines: 1}
	for what, s := range map[string]*store.Store{
		"a piece behind the device": naming(t, n, leaf), "a leaf with such a piece": naming(t, m, leaf, inner), "a leaf that is none": naming(t, m, words, inner), "a leaf behind the device": naming(t, m, words, far),
	} {
		x, e := text.Open(s)
		if e != api.OK {
			wantSays(t, what, e, api.ErrCorrupt)
			continue
		}
		if b, e := x.Read(0, 5); len(b) != 0 || e != api.ErrCorrupt {
			t.Errorf("%s: Read = %q, %v", what, b, e)
		}
		if line, e := x.Line(4); line != 0 || e != api.ErrCorrupt {
			t.Errorf("%s: Line = %d, %v", what, line, e)
		}
		wantSays(t, what+": Insert", x.Insert(2, []byte("new")), api.ErrCorrupt)
		wantSays(t, what+": Delete", x.Delete(2, 1), api.ErrCorrupt)
		if x.Len() != 5 || x.Lines() != 1 || x.Pieces() != 1 {
			t.Errorf("%s: %d bytes, %d lines, %d pieces", what, x.Len(), x.Lines(), x.Pieces())
		}
	}
}

// R7: texts that no call made.
func TestNoTexts(t *testing.T) {
	for what, x := range map[string]*text.Text{"nil": nil, "made by nobody": {}} {
		x.Keep()
		if x.Len() != 0 || x.Lines() != 0 || x.Pieces() != 0 || x.Back() || x.Store() != nil {
			t.Errorf("%s: %d bytes, %d lines, %d pieces, Store %v", what, x.Len(), x.Lines(), x.Pieces(), x.Store())
		}
		for _, at := range append(far, 0) {
			if b, e := x.Read(at, 0); len(b) != 0 || e != api.ErrState {
				t.Errorf("%s: Read(%d) = %q, %v", what, at, b, e)
			}
			if n, e := x.Begin(at); n != 0 || e != api.ErrState {
				t.Errorf("%s: Begin(%d) = %d, %v", what, at, n, e)
			}
			if n, e := x.Line(at); n != 0 || e != api.ErrState {
				t.Errorf("%s: Line(%d) = %d, %v", what, at, n, e)
			}
			wantSays(t, what+": Insert", x.Insert(at, nil), api.ErrState)
			wantSays(t, what+": Insert", x.Insert(at, make([]byte, 1<<20+1)), api.ErrState)
			wantSays(t, what+": Delete", x.Delete(at, 0), api.ErrState)
			wantSays(t, what+": Evict", x.Evict(at), api.ErrState)
		}
		if ok, e := x.Step(); ok || e != api.ErrState {
			t.Errorf("%s: Step = %v, %v", what, ok, e)
		}
		if b, e := x.State(); len(b) != 0 || e != api.ErrState {
			t.Errorf("%s: State = %q, %v", what, b, e)
		}
		wantSays(t, what+": Commit", x.Commit(nil), api.ErrState)
		wantSays(t, what+": Commit", x.Commit(make([]byte, 1<<20+1)), api.ErrState)
	}
}

// spoil writes over bytes, their spare room too.
func spoil(b []byte) {
	b = b[:cap(b)]
	for i := range b {
		b[i] = 'X'
	}
}

// R4: what is handed in is neither changed nor kept; what is handed out is new memory, and changes nothing when it is changed.
func TestMemory(t *testing.T) {
	for _, n := range []int{1, 200, 248, 500} {
		k := deskOf(t, 64, 8)
		put := append(make([]byte, 0, n+300), k.some(n)...)
		was := bytes.Clone(put[:cap(put)])
		for _, at := range []int{0, n / 2, n} {
			k.insert("words", at, bytes.Clone(put))
			k.delete("words", at, n)
			wantSays(t, "Insert", k.x.Insert(at*len(k.b)/max(n, 1), put), api.OK)
			k.inserted(at*len(k.b)/max(n, 1), put)
			if !bytes.Equal(put[:cap(put)], was) {
				t.Fatalf("%d bytes: what was handed in is another one", n)
			}
			spoil(put)
			k.wantNow("what was handed in is changed")
			copy(put[:cap(put)], was)
		}
		state := append(make([]byte, 0, 999), "state"...)
		wantSays(t, "Commit", k.x.Commit(state), api.OK)
		if string(state[:6]) != "state\x00" {
			t.Errorf("the state that was handed in is another one")
		}
		spoil(state)
		k.committed("the state is changed", "state")
		var answers [][]byte
		for range 3 {
			all, _ := k.x.Read(0, len(k.b))
			some, _ := k.x.Read(1, len(k.b)-1)
			one, _ := k.x.Read(0, 1)
			state, _ := k.x.State()
			answers = append(answers, all, some, one, state)
		}
		for i, b := range answers {
			rest := answers[i+1:]
			before := fmt.Sprint(rest)
			spoil(b)
			if fmt.Sprint(rest) != before {
				t.Fatalf("%d bytes: two answers share memory", n)
			}
		}
		k.committed("the answers are changed", "state")
	}
}

// ofGen is a desk on a device whose superblock has another Gen.
func ofGen(t *testing.T, gen int) *desk {
	t.Helper()
	k := grown(t, 32, 8, 5)
	k.commit("words", "words")
	d := k.s.Device()
	n := k.s.Super()
	n.Gen = gen
	b, e := super.Encode(n)
	wantSays(t, "super.Encode", e, api.OK)
	for page := range 2 {
		wantSays(t, "Write", d.Write(page, b), api.OK)
	}
	wantSays(t, "Sync", d.Sync(), api.OK)
	k.s, k.x = opened(t, "another Gen", d)
	k.wantNow("another Gen")
	return k
}

// P15.4: states of none, of what one page and several have room for, of MaxBlob bytes, and of one more, which is ErrLong whatever else there is.
func TestCommit(t *testing.T) {
	k := grown(t, 64, 8, 300, 5)
	for _, n := range []int{0, 1, 243, 244, 245, 488, 489, 1500} {
		k.commit(fmt.Sprint("a state of ", n), string(k.some(n)))
		k.insert("words", len(k.b)/2, k.some(3))
		k.wantNow(fmt.Sprint("behind a state of ", n))
	}
	k.commit("a state", "a state")
	k.insert("words", 3, k.some(3))
	ahead := stands(k)
	k.wantRefused("a state of MaxBlob bytes", k.x.Commit(make([]byte, 1<<20)), api.ErrFull, ahead)
	k.wantRefused("a state of one more", k.x.Commit(make([]byte, 1<<20+1)), api.ErrLong, ahead)
	k.wantNow("behind ErrLong")
	if b, e := k.x.State(); string(b) != "a state" || e != api.OK {
		t.Errorf("State = %q, %v", b, e)
	}
	k.commit("none", "")
	k.delete("all", 0, len(k.b))
	k.commit("an empty text", "behind all")
	k.commit("an empty text again", "behind that")
}

// P15.4: the store's ErrArg, where there is no greater Gen; ErrLong is ahead of it.
func TestCommitOfTheLastGen(t *testing.T) {
	k := ofGen(t, 1<<60-1)
	k.insert("words", 2, k.some(3))
	k.commit("the last one", "the last one")
	k.insert("words", 2, k.some(3))
	ahead := stands(k)
	k.wantRefused("one more", k.x.Commit([]byte("more")), api.ErrArg, ahead)
	k.wantRefused("a state too long", k.x.Commit(make([]byte, 1<<20+1)), api.ErrLong, ahead)
	k.s.Device().Fuse(0)
	k.wantRefused("a dead device", k.x.Commit(make([]byte, 1<<20+1)), api.ErrLong, ahead)
	k.wantRefused("a dead device", k.x.Commit(nil), api.ErrArg, ahead)
}
