package tree_test

import (
	"bytes"
	"fmt"
	"slices"
	"testing"

	"escritoire/api"
	"escritoire/cell"
	"escritoire/store"
	"escritoire/super"
	"escritoire/tree"
)

func TestExamples(t *testing.T) {
	k := deskOf(t, 16, 8, 1)
	five, three := api.Piece{Page: k.pages[0], Len: 5, Lines: 2}, api.Piece{Page: k.pages[0], Off: 9, Len: 3, Lines: 1}
	one, e := k.now.Splice(0, 0, []api.Piece{five})
	wantSays(t, "Splice(0, 0)", e, api.OK)
	two, e := one.Splice(5, 5, []api.Piece{three})
	wantSays(t, "Splice(5, 5)", e, api.OK)
	if p, at, e := two.Find(6); p != three || at != 5 || e != api.OK {
		t.Errorf("Find(6) = %v, %d, %v", p, at, e)
	}
	if l, at, e := two.Range(0, 8); !slices.Equal(l, []api.Piece{five, three}) || at != 0 || e != api.OK {
		t.Errorf("Range(0, 8) = %v, %d, %v", l, at, e)
	}
	if x, e := two.Splice(2, 2, []api.Piece{three}); x != nil || e != api.ErrArg {
		t.Errorf("Splice(2, 2) = %v, %v", x, e)
	}
}

// sizes of trees: of none, one and two levels at their edges, and of three.
var sizes = []int{0, 1, 2, 9, 10, 19, 20, 21, 40, 41, 60, 61, 120, 239, 240, 241, 300, 1000}

// P14.1: what is told of an empty tree, and what New refuses.
func TestNew(t *testing.T) {
	s := formatted(t, 16, 8)
	x, e := tree.New(s, s.Super())
	wantSays(t, "New", e, api.OK)
	wantTree(t, "New", s, x, nil)
	good := api.Super{Gen: 1, Pages: 16, Root: 9, Height: 1, Bytes: 5, Lines: 1}
	wantSays(t, "super.Check", super.Check(good), api.OK)
	for what, n := range map[string]api.Super{
		"none": {}, "Gen 0": {Pages: 16}, "Gen too great": {Gen: 1<<60 + 1, Pages: 16}, "Pages 7": {Gen: 1, Pages: 7}, "Pages 4097": {Gen: 1, Pages: 4097},
		"Root 1": {Gen: 1, Pages: 16, Root: 1, Height: 1, Bytes: 5}, "Root is Pages": {Gen: 1, Pages: 16, Root: 16, Height: 1, Bytes: 5}, "Root below 0": {Gen: 1, Pages: 16, Root: -1, Height: 1, Bytes: 5},
		"Height 0": {Gen: 1, Pages: 16, Root: 9, Bytes: 5}, "Height 33": {Gen: 1, Pages: 16, Root: 9, Height: 33, Bytes: 5}, "Height alone": {Gen: 1, Pages: 16, Height: 1}, "Height below 0": {Gen: 1, Pages: 16, Root: 9, Height: -1, Bytes: 5},
		"no Bytes": {Gen: 1, Pages: 16, Root: 9, Height: 1}, "Bytes alone": {Gen: 1, Pages: 16, Bytes: 5}, "Bytes too great": {Gen: 1, Pages: 16, Root: 9, Height: 1, Bytes: 1<<20 + 1},
		"Lines above Bytes": {Gen: 1, Pages: 16, Root: 9, Height: 1, Bytes: 5, Lines: 6}, "Lines below 0": {Gen: 1, Pages: 16, Root: 9, Height: 1, Bytes: 5, Lines: -1},
		"State 1": {Gen: 1, Pages: 16, State: 1}, "Free 16": {Gen: 1, Pages: 16, Free: 16},
	} {
		if x, e := tree.New(s, n); x != nil || e != api.ErrArg {
			t.Errorf("New of %s = %v, %v, want none, argument", what, x, e)
		}
	}
	for _, n := range []api.Super{{}, good, s.Super()} {
		if x, e := tree.New(nil, n); x != nil || e != api.ErrArg {
			t.Errorf("New(nil, %+v) = %v, %v, want none, argument", n, x, e)
		}
	}
}

// P14.1: of a tree's superblock New makes that tree, in another store too.
func TestNewAgain(t *testing.T) {
	for _, n := range sizes {
		k := grown(t, 256, 8, n)
		k.anchor()
		what := fmt.Sprint(n, " pieces")
		again := func(s *store.Store, n api.Super) {
			x, e := tree.New(s, n)
			wantSays(t, what+" again", e, api.OK)
			wantTree(t, what+" again", s, x, k.list)
			a, b := x.Root()
			if root, height := k.now.Root(); a != root || b != height {
				t.Errorf("%s: Root = %d, %d, want %d, %d", what, a, b, root, height)
			}
		}
		again(k.s, k.super())
		k.commit(what)
		s, e := store.Open(k.s.Device().Crash(nil), 8)
		wantSays(t, what+": store.Open", e, api.OK)
		again(s, s.Super())
	}
}

// corrupt asks New of a superblock that may be, but is none of the store's tree.
func corrupt(t *testing.T, what string, s *store.Store, n api.Super) {
	t.Helper()
	wantSays(t, what+": super.Check", super.Check(n), api.OK)
	if x, e := tree.New(s, n); x != nil || e != api.ErrCorrupt {
		t.Errorf("%s: New = %v, %v, want none, corrupt", what, x, e)
	}
}

// P14.1: ErrCorrupt of a Root whose page is none of such a tree.
func TestNewOfNoTree(t *testing.T) {
	for _, n := range []int{1, 20, 21, 100, 300, 1000} {
		k := grown(t, 256, 8, n)
		good := k.super()
		with := func(what string, change func(n *api.Super)) {
			bad := good
			change(&bad)
			corrupt(t, fmt.Sprint(n, " pieces, ", what), k.s, bad)
		}
		with("Bytes one more", func(n *api.Super) { n.Bytes++ })
		with("Bytes of MaxText", func(n *api.Super) { n.Bytes = api.MaxText })
		with("Lines one more", func(n *api.Super) { n.Lines++ })
		if good.Bytes > max(good.Lines, 1) {
			with("Bytes one less", func(n *api.Super) { n.Bytes-- })
		}
		if good.Lines > 0 {
			with("Lines one less", func(n *api.Super) { n.Lines-- })
			with("no Lines", func(n *api.Super) { n.Lines = 0 })
		}
		for height := 1; height <= 32; height++ {
			if height != good.Height {
				with(fmt.Sprint("Height ", height), func(n *api.Super) { n.Height = height })
			}
		}
		for page := 2; page < 256; page++ {
			if page != good.Root {
				with(fmt.Sprint("Root ", page), func(n *api.Super) { n.Root = page })
			}
		}
		// The superblock may have more pages than the device, on which there is no such Root then.
		with("Root behind the device", func(n *api.Super) { n.Pages, n.Root = 4096, 256 })
		with("Root far behind the device", func(n *api.Super) { n.Pages, n.Root = 4096, 4095 })
	}
}

// P14.1: pages made by hand, of each kind and level, whose numbers would be right.
func TestNewOfPagesByHand(t *testing.T) {
	s := formatted(t, 64, 8)
	text, _ := cell.Bytes([]byte("ab\ncd"))
	leaf, _ := cell.Leaf([]api.Piece{{Page: 3, Len: 5, Lines: 1}})
	n := func(page, height int) api.Super {
		return api.Super{Gen: 1, Pages: 64, Root: page, Height: height, Bytes: 5, Lines: 1}
	}
	on := map[string]int{"a text": write(t, s, text), "a leaf": write(t, s, leaf)}
	for level := 1; level <= 32; level++ {
		b, e := cell.Inner(level, []api.Kid{{Page: 4, Pieces: 1, Bytes: 2, Lines: 1}, {Page: 5, Pieces: 2, Bytes: 3}})
		wantSays(t, "cell.Inner", e, api.OK)
		on[fmt.Sprint("level ", level)] = write(t, s, b)
	}
	turned := bytes.Clone(leaf)
	turned[200] ^= 1
	on["a bit turned"] = write(t, s, turned)
	on["noughts"] = write(t, s, make([]byte, api.PageSize))
	for what, page := range on {
		for height := 1; height <= 32; height++ {
			x, e := tree.New(s, n(page, height))
			if what == "a leaf" && height == 1 || what == fmt.Sprint("level ", height-1) {
				wantSays(t, what, e, api.OK)
				root, h := x.Root()
				if x.Bytes() != 5 || x.Lines() != 1 || x.Count() != 1+min(height-1, 1)*2 || root != page || h != height {
					t.Errorf("%s: %d bytes, %d lines, %d pieces, Root %d, %d", what, x.Bytes(), x.Lines(), x.Count(), root, h)
				}
				continue
			}
			corrupt(t, fmt.Sprintf("%s, height %d", what, height), s, n(page, height))
		}
	}
	corrupt(t, "the free map", s, n(2, 1))
}

// P14.1, P14.2: the store's errors, at each op, of calls that find no page in a frame.
func TestReadsThatFail(t *testing.T) {
	for _, n := range []int{1, 30, 300} {
		k := grown(t, 256, 8, n)
		k.anchor()
		k.commit("all")
		k.s.Evict(99)
		end, last := k.now.Bytes(), k.now.Lines()-1
		for what, do := range map[string]func() (string, api.Errno){
			"New":   func() (string, api.Errno) { x, e := tree.New(k.s, k.super()); return fmt.Sprint(x != nil), e },
			"All":   func() (string, api.Errno) { l, e := k.now.All(); return fmt.Sprint(len(l)), e },
			"Find":  func() (string, api.Errno) { p, at, e := k.now.Find(end - 1); return fmt.Sprint(p, at), e },
			"Range": func() (string, api.Errno) { l, at, e := k.now.Range(end-2, end); return fmt.Sprint(len(l), at), e },
			"Line":  func() (string, api.Errno) { p, at, ahead, e := k.now.Line(last); return fmt.Sprint(p, at, ahead), e },
		} {
			before := k.s.Device().Ops()
			good, e := do()
			wantSays(t, what, e, api.OK)
			ops := k.s.Device().Ops() - before
			if height := k.super().Height; ops < 1 || what != "All" && ops > height+1 {
				t.Errorf("%s: %d ops at a height of %d", what, ops, height)
			}
			for fail := range ops {
				k.s.Evict(99)
				k.s.Device().Outcomes(append(make([]byte, fail), 1))
				got, e := do()
				nothing := map[string]string{"New": "false", "All": "0", "Find": "{0 0 0 0} 0", "Range": "0 0", "Line": "{0 0 0 0} 0 0"}[what]
				if e != api.ErrIO || got != nothing {
					t.Fatalf("%d pieces: %s with op %d failing = %s, %v, want %s, device", n, what, fail, got, e, nothing)
				}
				if got, e := do(); got != good || e != api.OK {
					t.Fatalf("%d pieces: %s behind a failure = %s, %v, want %s", n, what, got, e, good)
				}
			}
			k.s.Evict(99)
		}
	}
}

// P14.2: all places of small trees, many of great ones.
func TestFind(t *testing.T) {
	t.Parallel()
	for _, n := range sizes {
		k := grown(t, 256, 8, n)
		end := k.now.Bytes()
		for at := -2; at < end+3; at += 1 + n/100 {
			k.wantFind(at)
		}
		for _, at := range append(far, 0, end-1, end, end+1) {
			k.wantFind(at)
		}
		for i := 0; i < n; i += 1 + n/50 {
			k.wantFind(place(k.list, i) - 1)
			k.wantFind(place(k.list, i))
		}
	}
}

// P14.2: all pairs of places of small trees, many of great ones.
func TestRange(t *testing.T) {
	t.Parallel()
	for _, n := range sizes {
		k := grown(t, 256, 8, n)
		end := k.now.Bytes()
		if n <= 9 {
			for from := -2; from < end+3; from++ {
				for to := -2; to < end+3; to++ {
					k.wantRange(from, to)
				}
			}
		}
		for range 200 {
			k.wantRange(k.r.Intn(end+5)-2, k.r.Intn(end+5)-2)
			i := k.r.Intn(n + 1)
			j := i + k.r.Intn(n-i+1)
			k.wantRange(place(k.list, i), place(k.list, j))
			k.wantRange(place(k.list, i)-1, place(k.list, j)+1)
			k.wantRange(place(k.list, i)+1, place(k.list, j)-1)
		}
		for _, from := range append(far, 0, end-1, end) {
			for _, to := range append(far, 0, 1, end, end+1) {
				k.wantRange(from, to)
			}
		}
	}
}

// P14.2: all bytes 10, and where there are none.
func TestLine(t *testing.T) {
	for _, n := range sizes {
		k := grown(t, 256, 8, n)
		last := k.now.Lines() - 1
		for i := -2; i < last+3; i += 1 + n/200 {
			k.wantLine(i)
		}
		for _, i := range append(far, 0, last, last+1) {
			k.wantLine(i)
		}
	}
	k := deskOf(t, 16, 8, 1)
	k.splice("a piece without bytes 10", 0, 0, []api.Piece{{Page: k.pages[0], Len: 3}})
	k.wantLine(0)
	k.splice("one that is nothing else", 1, 1, []api.Piece{{Page: k.pages[0], Len: 3, Lines: 3}, {Page: k.pages[0], Len: 1}})
	for i := range 5 {
		k.wantLine(i - 1)
	}
}

// P14.2: a page of the tree that was written over: what reads it says so, what does not read it tells what it told.
func TestPagesThatAreNone(t *testing.T) {
	for _, n := range []int{1, 30, 300} {
		k := grown(t, 256, 8, n)
		text, _ := cell.Bytes([]byte("ab"))
		for _, page := range k.wantNow("all") {
			good, _ := k.s.Read(page)
			bad := map[string][]byte{"noughts": make([]byte, api.PageSize), "a text": text}
			if l, e := cell.Pieces(good); e == api.OK {
				bad["a byte more"] = leafWith(l, func(p *api.Piece) { p.Off, p.Len = 0, p.Len+1 })
				bad["a line more"] = leafWith(l, func(p *api.Piece) { p.Lines++ })
				bad["a piece more"] = leafOf(halved(l))
			}
			if level, l, e := cell.Kids(good); e == api.OK {
				bad["another level"], _ = cell.Inner(level+1, l)
				bad["a byte more"] = innerWith(level, l, func(k *api.Kid) { k.Bytes++ })
				bad["a line more"] = innerWith(level, l, func(k *api.Kid) { k.Lines++ })
				bad["a piece more"] = innerWith(level, l, func(k *api.Kid) { k.Pieces++ })
				bad["a kid elsewhere"] = innerWith(level, l, func(k *api.Kid) { k.Page = 2 })
				bad["a kid nowhere"] = innerWith(level, l, func(k *api.Kid) { k.Page = 4095 })
			}
			for what, b := range bad {
				if len(b) == 0 {
					// Such a page there is not.
					continue
				}
				what = fmt.Sprintf("%d pieces, page %d with %s", n, page, what)
				wantSays(t, what, k.s.Write(page, b), api.OK)
				k.wantCorrupt(what, page)
				wantSays(t, what, k.s.Write(page, good), api.OK)
			}
		}
		k.wantNow("all is as it was")
	}
}

func leafOf(l []api.Piece) []byte {
	b, _ := cell.Leaf(l)
	return b
}

// halved are the same places and lines in one piece more.
func halved(l []api.Piece) []api.Piece {
	i := slices.IndexFunc(l, func(p api.Piece) bool { return p.Len > 1 && p.Lines < p.Len })
	if i < 0 {
		return nil
	}
	p := l[i]
	p.Len--
	return slices.Concat(l[:i], []api.Piece{p, {Page: p.Page, Len: 1}}, l[i+1:])
}

func leafWith(l []api.Piece, change func(*api.Piece)) []byte {
	l = slices.Clone(l)
	change(&l[0])
	return leafOf(l)
}

func innerWith(level int, l []api.Kid, change func(*api.Kid)) []byte {
	l = slices.Clone(l)
	change(&l[len(l)/2])
	b, _ := cell.Inner(level, l)
	return b
}

// wantCorrupt asks for each piece: it is told as it was, or not at all; and that no call that meets the page does more than say so.
func (k *desk) wantCorrupt(what string, page int) {
	k.t.Helper()
	if l, e := k.now.All(); len(l) != 0 || e != api.ErrCorrupt {
		k.t.Fatalf("%s: All = %v, %v, want none, corrupt", what, l, e)
	}
	free, mine, lost := k.s.Free(), own(k.s), 0
	for i := 0; i < len(k.list); i += 1 + len(k.list)/40 {
		at, want := place(k.list, i), k.list[i]
		p, begin, e := k.now.Find(at)
		l, first, f := k.now.Range(at, at+want.Len)
		if e != f {
			k.t.Fatalf("%s: Find(%d) says %v, Range %v", what, at, e, f)
		}
		if e == api.OK {
			if p != want || begin != at || first != at || !slices.Equal(l, []api.Piece{want}) {
				k.t.Fatalf("%s: Find(%d) = %v, %d, Range %v, %d, want %v", what, at, p, begin, l, first, want)
			}
			continue
		}
		lost++
		if p != (api.Piece{}) || begin != 0 || first != 0 || len(l) != 0 || e != api.ErrCorrupt {
			k.t.Fatalf("%s: Find(%d) = %v, %d, %v, Range %v, %d", what, at, p, begin, e, l, first)
		}
		if line := lines(k.list[:i]); want.Lines > 0 {
			if p, begin, ahead, e := k.now.Line(line); p != (api.Piece{}) || begin != 0 || ahead != 0 || e != api.ErrCorrupt {
				k.t.Fatalf("%s: Line(%d) = %v, %d, %d, %v", what, line, p, begin, ahead, e)
			}
		}
		if x, e := k.now.Splice(at, at+want.Len, k.some(3)); x != nil || e != api.ErrCorrupt {
			k.t.Fatalf("%s: Splice(%d) = %v, %v", what, at, x, e)
		}
		if now := own(k.s); k.s.Free() != free || !slices.Equal(now, mine) {
			k.t.Fatalf("%s: Splice(%d) took or gave pages: %v, %v", what, at, now, mine)
		}
	}
	if root, _ := k.now.Root(); root == page && lost == 0 {
		k.t.Fatalf("%s: all is told without the root", what)
	}
}

// R7: trees that no call made.
func TestNoTrees(t *testing.T) {
	for what, x := range map[string]*tree.Tree{"nil": nil, "made by nobody": {}} {
		root, height := x.Root()
		if root != 0 || height != 0 || x.Bytes() != 0 || x.Lines() != 0 || x.Count() != 0 {
			t.Errorf("%s: Root %d, %d, %d bytes, %d lines, %d pieces", what, root, height, x.Bytes(), x.Lines(), x.Count())
		}
		if l, e := x.All(); len(l) != 0 || e != api.ErrState {
			t.Errorf("%s: All = %v, %v", what, l, e)
		}
		for _, at := range append(far, 0) {
			if p, b, e := x.Find(at); p != (api.Piece{}) || b != 0 || e != api.ErrState {
				t.Errorf("%s: Find(%d) = %v, %d, %v", what, at, p, b, e)
			}
			if l, b, e := x.Range(at, 0); len(l) != 0 || b != 0 || e != api.ErrState {
				t.Errorf("%s: Range(%d, 0) = %v, %d, %v", what, at, l, b, e)
			}
			if p, b, n, e := x.Line(at); p != (api.Piece{}) || b != 0 || n != 0 || e != api.ErrState {
				t.Errorf("%s: Line(%d) = %v, %d, %d, %v", what, at, p, b, n, e)
			}
			if y, e := x.Splice(at, 0, []api.Piece{{}}); y != nil || e != api.ErrState {
				t.Errorf("%s: Splice(%d, 0) = %v, %v", what, at, y, e)
			}
		}
	}
}

// A store that no call made says ErrState when it is asked; no call panics.
func TestStoreThatIsNone(t *testing.T) {
	s := &store.Store{}
	n := api.Super{Gen: 1, Pages: 16, Root: 5, Height: 1, Bytes: 5}
	if x, e := tree.New(s, n); x != nil || e != api.ErrState {
		t.Errorf("New = %v, %v, want none, state", x, e)
	}
	x, e := tree.New(s, api.Super{Gen: 1, Pages: 16})
	wantSays(t, "an empty tree", e, api.OK)
	if y, e := x.Splice(0, 0, []api.Piece{{Page: 2, Len: 1}}); y != nil || e != api.ErrArg {
		t.Errorf("Splice = %v, %v, want none, argument", y, e)
	}
}

// R4: what is answered is new memory, and changes nothing when it is changed.
func TestAnswersAreNew(t *testing.T) {
	for _, n := range []int{1, 20, 100, 300} {
		k := grown(t, 256, 8, n)
		var answers [][]api.Piece
		for range 2 {
			all, _ := k.now.All()
			part, _, _ := k.now.Range(1, k.now.Bytes()-1)
			some, _, _ := k.now.Range(0, 1)
			answers = append(answers, all, part, some)
		}
		for i, l := range answers {
			spoil(l)
			for _, other := range answers[i+1:] {
				if slices.Contains(other[:cap(other)], spoilt) {
					t.Fatalf("%d pieces: two answers share memory", n)
				}
			}
		}
		k.wantNow("the answers were changed")
	}
}

// spoilt is a piece that nobody asks for.
var spoilt = api.Piece{Page: 7, Off: 7, Len: 7, Lines: 7}

// spoil writes over a list, its spare room too.
func spoil(l []api.Piece) {
	l = l[:cap(l)]
	for i := range l {
		l[i] = spoilt
	}
}

// R4: a list that is handed in is neither changed nor kept, whatever comes of it.
func TestListsHandedIn(t *testing.T) {
	for _, n := range []int{0, 1, 20, 100} {
		k := grown(t, 256, 8, 50)
		l := append(make([]api.Piece, 0, n+5), k.some(n)...)
		room := l[:cap(l)]
		room[n] = spoilt
		was := slices.Clone(room)
		next, e := k.now.Splice(place(k.list, 3), place(k.list, 9), l)
		wantSays(t, "Splice", e, api.OK)
		if !slices.Equal(room, was) {
			t.Errorf("%d pieces: the list is %v, was %v", n, room, was)
		}
		want := spliced(k.list, 3, 9, slices.Clone(l))
		spoil(l)
		wantTree(t, "the list was changed", k.s, next, want)
		_, e = next.Splice(1, 0, l)
		wantSays(t, "Splice", e, api.ErrArg)
		_, e = next.Splice(0, 0, append(l, api.Piece{}))
		wantSays(t, "Splice", e, api.ErrArg)
	}
}
