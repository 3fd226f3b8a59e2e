package tree_test

import (
	"fmt"
	"math"
	"slices"
	"testing"

	"escritoire/api"
	"escritoire/tree"
)

// wantRefused: R2, R3: a Splice that is refused answers no tree, and changes nothing.
func (k *desk) wantRefused(what string, from, to int, l []api.Piece, want api.Errno) {
	k.t.Helper()
	free, mine := k.s.Free(), own(k.s)
	x, e := k.now.Splice(from, to, l)
	if x != nil || e != want {
		k.t.Fatalf("%s: Splice(%d, %d) of %d = %v, %v, want none, %v", what, from, to, len(l), x, e, want)
	}
	if now := own(k.s); k.s.Free() != free || !slices.Equal(now, mine) {
		k.t.Fatalf("%s: %d free, own are %v, want %d, %v", what, k.s.Free(), now, free, mine)
	}
}

// P14.3: places that are none, of trees of each height.
func TestRefusedPlaces(t *testing.T) {
	for _, n := range []int{0, 1, 5, 20, 30, 300} {
		k := grown(t, 256, 8, n)
		end := k.now.Bytes()
		for _, l := range [][]api.Piece{nil, k.some(1), k.some(30)} {
			for _, at := range far {
				if at < 0 {
					k.wantRefused("below 0", at, 0, l, api.ErrArg)
					k.wantRefused("below 0", at, at, l, api.ErrArg)
					k.wantRefused("below 0", at, end, l, api.ErrArg)
					k.wantRefused("to below from", 0, at, l, api.ErrArg)
				} else {
					k.wantRefused("above Bytes", 0, at, l, api.ErrArg)
					k.wantRefused("above Bytes", at, at, l, api.ErrArg)
					k.wantRefused("to below from", at, 0, l, api.ErrArg)
				}
			}
			k.wantRefused("above Bytes by one", 0, end+1, l, api.ErrArg)
			k.wantRefused("above Bytes by one", end, end+1, l, api.ErrArg)
			k.wantRefused("above Bytes by one", end+1, end+1, l, api.ErrArg)
			k.wantRefused("to below from", end+1, end, l, api.ErrArg)
			if end > 0 {
				k.wantRefused("to below from", end, 0, l, api.ErrArg)
				k.wantRefused("to below from", end, end-1, l, api.ErrArg)
			}
		}
		k.wantNow("all were refused")
	}
}

// P14.3: from and to at each place: within a piece they are refused, whatever else there is.
func TestWithinPieces(t *testing.T) {
	k := grown(t, 256, 8, 45)
	end := k.now.Bytes()
	seams := map[int]bool{}
	for i := range len(k.list) + 1 {
		seams[place(k.list, i)] = true
	}
	for from := range end + 1 {
		for to := from; to <= end; to += 1 + k.r.Intn(9) {
			if !seams[from] || !seams[to] {
				k.wantRefused("within a piece", from, to, k.some(to%3), api.ErrArg)
				continue
			}
			k.s.Mark()
			x, e := k.now.Splice(from, to, nil)
			if e != api.OK || x.Bytes() != end-(to-from) {
				t.Fatalf("Splice(%d, %d) = %v, %v", from, to, x, e)
			}
			k.s.Back()
		}
	}
	k.wantNow("all was taken back")
}

// P14.3: pieces that may not be, at each place among others; the edges of those that may be.
func TestPieces(t *testing.T) {
	k := grown(t, 64, 8, 25)
	bad := []api.Piece{
		{}, {Page: 2}, {Page: 5, Len: -1}, {Page: 5, Off: 1}, {Page: 5, Len: 249}, {Page: 5, Off: 248, Len: 1}, {Page: 5, Off: 1, Len: 248}, {Page: 5, Off: -1, Len: 5},
		{Page: 5, Len: 5, Lines: 6}, {Page: 5, Len: 5, Lines: -1}, {Page: 1, Len: 5}, {Len: 5}, {Page: -1, Len: 5}, {Page: 64, Len: 5}, {Page: 65, Len: 5}, {Page: 4095, Len: 5}, {Page: 4096, Len: 5},
		{Page: math.MaxInt, Len: 5}, {Page: math.MinInt, Len: 5}, {Page: 5, Off: math.MaxInt, Len: math.MaxInt}, {Page: 5, Off: math.MinInt, Len: 5}, {Page: 5, Len: math.MaxInt}, {Page: 5, Len: math.MinInt}, {Page: 5, Len: 5, Lines: math.MaxInt},
	}
	for _, p := range bad {
		for _, n := range []int{0, 1, 19, 20, 21, 45} {
			for _, at := range []int{0, n / 2, n} {
				l := slices.Insert(k.some(n), at, p)
				what := fmt.Sprintf("%+v at %d of %d", p, at, n)
				k.wantRefused(what, 0, 0, l, api.ErrArg)
				k.wantRefused(what, 0, k.now.Bytes(), l, api.ErrArg)
				k.wantRefused(what, k.now.Bytes(), k.now.Bytes(), l, api.ErrArg)
			}
		}
	}
	good := []api.Piece{
		{Page: 2, Len: 1}, {Page: 63, Len: 1}, {Page: 2, Len: 248}, {Page: 5, Off: 247, Len: 1}, {Page: 5, Off: 1, Len: 247}, {Page: 5, Len: 5, Lines: 5}, {Page: 5, Len: 248, Lines: 248},
	}
	for _, p := range good {
		k.splice(fmt.Sprintf("%+v", p), 7, 9, []api.Piece{p})
	}
	k.splice("all of them", 0, len(k.list), good)
}

// P14.3: MaxText bytes and one more; ErrLong is behind ErrArg, and ahead of all else.
func TestLength(t *testing.T) {
	k := deskOf(t, 512, 8, 1)
	whole, rest := api.Piece{Page: k.pages[0], Len: 248}, api.Piece{Page: k.pages[0], Len: 32}
	all := slices.Repeat([]api.Piece{whole}, 4228)
	one := []api.Piece{{Page: k.pages[0], Len: 1}}
	k.wantRefused("one too many at once", 0, 0, slices.Concat(all, []api.Piece{rest}, one), api.ErrLong)
	k.wantRefused("many too many", 0, 0, slices.Repeat(all, 3), api.ErrLong)
	k.splice("MaxText", 0, 0, append(slices.Clone(all), rest))
	if k.now.Bytes() != 1<<20 {
		t.Fatalf("%d bytes", k.now.Bytes())
	}
	k.wantNoMore(one, whole, rest)
	k.splice("as many again", 4000, 4001, []api.Piece{whole})
	k.splice("one less", 0, 1, []api.Piece{{Page: k.pages[0], Len: 247}})
	k.splice("one more, in the midst", 2000, 2000, one)
	k.wantNoMore(one, whole, rest)
	k.splice("all others", 0, len(k.list), append(slices.Clone(all), rest))
	k.splice("none", 0, len(k.list), nil)
}

// wantNoMore: of a tree that has MaxText bytes.
func (k *desk) wantNoMore(one []api.Piece, whole, rest api.Piece) {
	k.t.Helper()
	end := 1 << 20
	begin := place(k.list, 2001)
	k.wantRefused("one at the beginning", 0, 0, one, api.ErrLong)
	k.wantRefused("one in the midst", begin, begin, one, api.ErrLong)
	k.wantRefused("one at the end", end, end, one, api.ErrLong)
	k.wantRefused("one more instead", end-32, end, slices.Concat([]api.Piece{rest}, one), api.ErrLong)
	k.wantRefused("more instead", end-32, end, []api.Piece{whole}, api.ErrLong)
	k.wantRefused("all and one", 0, end, slices.Concat(k.list, one), api.ErrLong)
	k.wantRefused("within a piece, too", begin+1, begin+1, one, api.ErrArg)
	k.wantRefused("within a piece, too", 0, end-1, slices.Concat(k.list, one), api.ErrArg)
	k.wantRefused("no piece, too", end, end, append(slices.Clone(one), api.Piece{}), api.ErrArg)
	k.s.Evict(99)
	k.s.Device().Outcomes([]byte{1})
	k.wantRefused("a device that fails, too", end, end, one, api.ErrLong)
	k.wantNow("all were refused")
}

// counts are of pieces, at the edges of what a leaf may have, or two or three.
var counts = []int{0, 1, 2, 9, 10, 11, 19, 20, 21, 29, 30, 39, 40, 41, 60, 61}

// try does a splice, looks at what comes of it, and takes it back.
func (k *desk) try(i, j int, put []api.Piece) {
	k.t.Helper()
	what := fmt.Sprintf("%d pieces, %d to %d become %d", len(k.list), i, j, len(put))
	was, l := k.now, k.list
	k.s.Mark()
	k.splice(what, i, j, put)
	wantTree(k.t, what+": the elder tree", k.s, was, l)
	if !k.s.Back() {
		k.t.Fatalf("%s: no Back", what)
	}
	k.now, k.list = was, l
}

// P14.3 to P14.5: at each seam of trees of one and two levels so many pieces are put in as make leaves too full, or taken out as make them too empty.
func TestEachSeam(t *testing.T) {
	t.Parallel()
	for _, n := range counts {
		k := grown(t, 256, 16, n)
		for i := range n + 1 {
			for _, m := range counts {
				k.try(i, i, k.some(m))
			}
			for j := i; j <= n; j++ {
				k.try(i, j, nil)
				k.try(i, j, k.some(k.r.Intn(45)))
			}
		}
		k.wantNow("all was taken back")
	}
}

// thin makes a tree whose leaves have 10 pieces, and whose inner pages have few kids: its pieces are put in one by one at the end.
func thin(t *testing.T, n int) *desk {
	t.Helper()
	k := deskOf(t, 256, 16, 3)
	for i := range n {
		k.one("thin", i, i, i, k.some(1))
	}
	k.wantNow("thin")
	return k
}

// P14.3 to P14.5: the same of trees of three levels and four, full ones and thin ones, at many seams.
func TestManySeams(t *testing.T) {
	t.Parallel()
	for _, k := range []*desk{grown(t, 400, 16, 240), grown(t, 400, 16, 241), grown(t, 400, 16, 500), thin(t, 121), thin(t, 130), thin(t, 140), thin(t, 300), thin(t, 730), thin(t, 760)} {
		n := len(k.list)
		for i := 0; i <= n; i += 1 + n/40 {
			k.try(i, i, k.some(1))
			k.try(i, min(i+1, n), nil)
			k.try(i, min(i+11, n), nil)
			k.try(i, n, nil)
			k.try(0, i, nil)
			k.try(i, i, k.some(130))
		}
		for range 100 {
			i := k.r.Intn(n + 1)
			j := i + k.r.Intn(n-i+1)
			k.try(i, j, k.some(k.r.Intn(2)*k.r.Intn(60)))
			k.try(i/10*10, j/10*10, nil)
		}
	}
}

// P14.3 to P14.5: one by one at the beginning, in the midst, at the end: heights come, and go again.
func TestOneByOne(t *testing.T) {
	t.Parallel()
	begin, midst, third, end := func(int) int { return 0 }, func(n int) int { return n / 2 }, func(n int) int { return n * 7 / 20 }, func(n int) int { return n }
	for what, x := range map[string]struct{ put, take func(n int) int }{
		"begin, begin": {begin, begin}, "begin, end": {begin, end}, "midst, third": {midst, third}, "third, midst": {third, midst}, "end, begin": {end, begin}, "end, midst": {end, midst}, "end, end": {end, end},
	} {
		k := deskOf(t, 300, 16, 2)
		heights := map[int]bool{}
		for n := range 400 {
			i := x.put(n)
			k.one(what+": into", n, i, i, k.some(1))
			heights[k.super().Height] = true
		}
		for n := 399; n >= 0; n-- {
			i := x.take(n)
			k.one(what+": out", n, i, i+1, nil)
		}
		if root, height := k.now.Root(); root != 0 || height != 0 || k.s.Free() != 300-3-2 || len(heights) != 3 {
			t.Errorf("%s: all are out: Root = %d, %d, %d free; heights were %v", what, root, height, k.s.Free(), heights)
		}
	}
}

// one is a splice in a row of many, of which the later ones are not all looked at.
func (k *desk) one(what string, n, i, j int, put []api.Piece) {
	k.t.Helper()
	next, e := k.now.Splice(place(k.list, i), place(k.list, j), put)
	wantSays(k.t, what, e, api.OK)
	k.now, k.list = next, spliced(k.list, i, j, put)
	if n < 50 || n%5 == 0 {
		k.wantNow(what)
	}
}

// P14.4: the root rises when one page has no room for all, and falls when one is enough.
func TestRoot(t *testing.T) {
	k := deskOf(t, 300, 16, 1)
	for _, x := range []struct{ count, height int }{
		{1, 1}, {20, 1}, {21, 2}, {20, 0}, {9, 1}, {240, 2}, {241, 3}, {2881, 4}, {100, 0}, {11, 0}, {1, 1}, {0, 0}, {3000, 4}, {19, 1}, {0, 0},
	} {
		n := len(k.list)
		if x.count >= n {
			k.splice(fmt.Sprint("up to ", x.count), n, n, k.some(x.count-n))
		} else {
			k.splice(fmt.Sprint("down to ", x.count), x.count/2, n-(x.count+1)/2, nil)
		}
		// Where there are several heights that may be, none is asked for.
		if height := k.super().Height; x.height > 0 && height != x.height {
			t.Errorf("%d pieces: a height of %d, want %d", x.count, height, x.height)
		}
	}
}

// The tree is copied on its way: a splice takes no more pages than those that it must change, however great the tree is, and leaves all others.
func TestFewPages(t *testing.T) {
	t.Parallel()
	k := grown(t, 400, 16, 3000)
	_, height := k.now.Root()
	for i := 0; i < 3000; i += 31 {
		// Pages that are full become two.
		k.wantFew("one into a full tree", job{i, i, k.some(1)}, height+1, 2*height+1)
		k.wantFew("one instead of one", job{i, i + 1, k.some(1)}, height, height)
	}
	k = thin(t, 760)
	_, height = k.now.Root()
	for i := 0; i < 400; i += 3 {
		k.wantFew("one into a thin tree", job{i, i, k.some(1)}, height, height)
		k.wantFew("one instead of one", job{i, i + 1, k.some(1)}, height, height)
		// A leaf that has too little becomes one with the leaf beside it, and so on up.
		k.wantFew("one out of a thin tree", job{i, i + 1, nil}, height-1, height)
		// A leaf that goes as a whole leaves the others as they are.
		k.wantFew("a leaf", job{i / 10 * 10, i/10*10 + 10, nil}, height-2, height-1)
		k.wantFew("a leaf instead of one", job{i / 10 * 10, i/10*10 + 10, k.some(10)}, height, height)
	}
}

// A leaf that goes as a whole is not read: of a tree from which all is taken the inner pages are enough.
func TestLeavesThatGo(t *testing.T) {
	k := grown(t, 400, 8, 2000)
	k.anchor()
	k.commit("all")
	inner := 0
	for _, page := range k.wantNow("all") {
		if b, _ := k.s.Read(page); b[4] == api.KindInner {
			inner++
		}
	}
	k.s.Mark()
	k.s.Evict(99)
	before := k.s.Device().Ops()
	x, e := k.now.Splice(0, k.now.Bytes(), nil)
	wantSays(t, "all are taken out", e, api.OK)
	if ops := k.s.Device().Ops() - before; ops != inner {
		t.Errorf("%d ops, but %d inner pages", ops, inner)
	}
	wantTree(t, "all are taken out", k.s, x, nil)
}

// wantFew tells how many pages a splice takes, and takes it back.
func (k *desk) wantFew(what string, x job, least, most int) {
	k.t.Helper()
	what = fmt.Sprintf("%d pieces, %s at %d", len(k.list), what, x.i)
	if fresh := k.need(what, x); fresh < least || fresh > most {
		k.t.Fatalf("%s: %d new pages, want %d to %d", what, fresh, least, most)
	}
}

// wantPages: the pages behind a Splice are those of the new tree, and all that the old one alone had are given up.
func (k *desk) wantPages(what string, before []int, old []int, free int) {
	k.t.Helper()
	now := k.wantNow(what)
	fresh, gone := without(now, old), without(old, now)
	wasOwn := func(page int) bool { return slices.Contains(before, page) }
	var freed []int
	for _, page := range gone {
		if k.s.Own(page) {
			k.t.Fatalf("%s: page %d, which nothing reaches, is own", what, page)
		}
		if wasOwn(page) {
			freed = append(freed, page)
		}
	}
	if got, want := own(k.s), sorted(without(before, gone), fresh); !slices.Equal(got, want) {
		k.t.Fatalf("%s: own are %v, want %v", what, got, want)
	}
	if got, want := k.s.Free(), free-len(fresh)+len(freed); got != want {
		k.t.Fatalf("%s: %d free, want %d", what, got, want)
	}
}

// P14.3, T3: which pages are own, given up and free behind each Splice: without a point, with one ahead of each, with one that stays; with commits on the way, and without.
func TestPages(t *testing.T) {
	t.Parallel()
	for _, marks := range []int{0, 1, 5} {
		for _, commits := range []int{0, 7} {
			k := grown(t, 700, 16, 30)
			k.anchor()
			for i := range 120 {
				what := fmt.Sprintf("a point each %d, a commit each %d: splice %d", marks, commits, i)
				if marks > 0 && i%marks == 0 {
					k.s.Mark()
				}
				if commits > 0 && i%commits == 0 {
					k.commit(what)
				}
				before, old, free := own(k.s), k.wantNow(what), k.s.Free()
				a, b, put := k.anySplice()
				k.splice(what, a, b, put)
				k.wantPages(what, before, old, free)
				texts := without(k.pages, without(k.pages, own(k.s)))
				if got, want := own(k.s), sorted(texts, without(k.wantNow(what), without(k.wantNow(what), own(k.s)))); !slices.Equal(got, want) {
					t.Fatalf("%s: own are %v, want %v", what, got, want)
				}
			}
			k.commit("at the end")
		}
	}
}

// anySplice is of any of the pieces but the last ones, which reach all text pages; it lets the tree grow and shrink in turn.
func (k *desk) anySplice() (i, j int, put []api.Piece) {
	n := len(k.list) - len(k.pages)
	i = k.r.Intn(n + 1)
	switch k.r.Intn(5) {
	case 0:
		return i, i + k.r.Intn(n-i+1), k.some(k.r.Intn(20))
	case 1:
		return i, i, k.some(k.r.Intn(150))
	case 2:
		return i, min(i+1, n), nil
	case 3:
		return i, i, k.some(1)
	}
	return i, min(i+k.r.Intn(15), n), k.some(k.r.Intn(15))
}

// P14.3 to P14.5, T3: long rows of splices, held against a plain list, with commits that audit walks through, on few frames.
func TestRows(t *testing.T) {
	t.Parallel()
	for seed := range 12 {
		k := grown(t, 700, 8, 5*seed)
		k.r.Seed(int64(seed))
		k.anchor()
		for i := range 150 {
			what := fmt.Sprintf("seed %d, splice %d", seed, i)
			if k.r.Intn(2) == 0 {
				k.s.Mark()
			}
			a, b, put := k.anySplice()
			k.splice(what, a, b, put)
			if k.r.Intn(8) == 0 {
				k.commit(what)
			}
			if k.r.Intn(8) == 0 {
				wantSays(t, what, k.s.Evict(k.r.Intn(9)), api.OK)
			}
			if k.s.Pinned() != 0 || k.s.Resident() > 8 {
				t.Fatalf("%s: %d pinned, %d resident", what, k.s.Pinned(), k.s.Resident())
			}
			k.wantFind(k.r.Intn(k.now.Bytes()))
			k.wantRange(k.r.Intn(k.now.Bytes()), k.r.Intn(k.now.Bytes()))
			k.wantLine(k.r.Intn(k.now.Lines() + 1))
		}
		k.commit("at the end")
	}
}

// P14.3: an elder tree tells what it told, as long as the point is not ahead of its making, whatever was done since.
func TestElderTrees(t *testing.T) {
	t.Parallel()
	for _, n := range []int{0, 5, 20, 100, 300} {
		k := grown(t, 700, 8, n)
		k.anchor()
		for round := range 6 {
			if round == 3 {
				k.commit("all")
			}
			k.s.Mark()
			elder, list := k.now, k.list
			for i := range 20 {
				what := fmt.Sprintf("%d pieces, round %d, splice %d", n, round, i)
				a, b, put := k.anySplice()
				k.splice(what, a, b, put)
				wantTree(t, what+": the elder tree", k.s, elder, list)
				wantSays(t, what, k.s.Evict(3), api.OK)
			}
			// Back makes the elder tree's pages those that they were.
			if round%2 == 0 {
				k.s.Back()
				k.now, k.list = elder, list
				k.wantNow("Back")
			}
		}
	}
}

// Without a point, too, the tree that was spliced tells what it told till pages are taken; and what it had may be taken for a second splice of it.
func TestElderTreeWithoutPoint(t *testing.T) {
	for _, n := range []int{1, 20, 100} {
		k := grown(t, 256, 8, n)
		elder, list := k.now, k.list
		k.splice("all are taken out", 0, n, nil)
		wantTree(t, "the elder tree", k.s, elder, list)
		put := k.some(1)
		again, e := elder.Splice(0, place(list, n), put)
		wantSays(t, "the elder tree again", e, api.OK)
		k.now, k.list = again, put
		k.splice("and on", 1, 1, k.some(40))
		if got, want := own(k.s), sorted(k.pages, k.wantNow("and on")); !slices.Equal(got, want) {
			t.Errorf("%d pieces: own are %v, want %v", n, got, want)
		}
	}
}

// Nothing for nothing: the same pages, none of them taken or given up.
func TestNothingSpliced(t *testing.T) {
	for _, n := range []int{0, 1, 20, 45, 300} {
		k := grown(t, 256, 8, n)
		before, free := k.wantNow("before"), k.s.Free()
		for i := range n + 1 {
			k.splice("nothing", i, i, nil)
		}
		if after := k.wantNow("after"); !slices.Equal(after, before) || k.s.Free() != free {
			t.Errorf("%d pieces: on %v, were on %v, %d free", n, after, before, k.s.Free())
		}
	}
}

// P14.3: text pages are not dropped, even if no piece reaches them any more.
func TestTextPagesStay(t *testing.T) {
	for _, commits := range []bool{false, true} {
		k := deskOf(t, 64, 8, 5)
		k.anchor()
		if commits {
			k.commit("all")
		}
		bits := k.s.Free()
		nodes := len(k.wantNow("all"))
		k.splice("none", 0, len(k.list), nil)
		for _, page := range k.pages {
			if k.s.Own(page) == commits {
				t.Errorf("page %d: own is %v behind a commit (%v)", page, k.s.Own(page), commits)
			}
			wantSays(t, "Drop of a text page", k.s.Drop(page), api.OK)
		}
		if want := bits + nodes + len(k.pages); !commits && k.s.Free() != want {
			t.Errorf("%d free, want %d", k.s.Free(), want)
		}
	}
}

// R5: the same calls on another store make the same tree on the same pages.
func TestSameAgain(t *testing.T) {
	again := func() (*tree.Tree, []int) {
		k := grown(t, 400, 9, 77)
		for range 40 {
			i, j, put := k.anySplice()
			k.splice("any", i, j, put)
		}
		return k.now, k.wantNow("all")
	}
	a, on := again()
	b, too := again()
	x, h := a.Root()
	y, i := b.Root()
	if x != y || h != i || !slices.Equal(on, too) {
		t.Errorf("Root = %d, %d on %v, and %d, %d on %v", x, h, on, y, i, too)
	}
}
