package audit_test

import (
	"bytes"
	"encoding/binary"
	"fmt"
	"maps"
	"math"
	"math/rand"
	"slices"
	"testing"

	"escritoire/api"
	"escritoire/audit"
	"escritoire/device"
	"escritoire/super"
)

func sameReport(a, b audit.Report) bool {
	return a.Super == b.Super && a.Place == b.Place && slices.Equal(a.Pieces, b.Pieces) && bytes.Equal(a.Text, b.Text) && bytes.Equal(a.State, b.State) && slices.Equal(a.Pages, b.Pages)
}

func short(r audit.Report) string {
	return fmt.Sprintf("%+v, place %d, %d pieces, %d bytes, state of %d, %d pages", r.Super, r.Place, len(r.Pieces), len(r.Text), len(r.State), len(r.Pages))
}

// wantSound: P12.1, P12.2, P12.3 of a world that is in order.
func wantSound(t *testing.T, what string, w *world) {
	t.Helper()
	if r, e := audit.Walk(w.device(), w.super); e != api.OK || !sameReport(r, w.report(-1)) {
		t.Errorf("%s: Walk = %s, %v, want %s", what, short(r), e, short(w.report(-1)))
	}
	for place := range 2 {
		d := w.at(place)
		r, e := audit.Open(d)
		if e != api.OK || !sameReport(r, w.report(place)) {
			t.Errorf("%s: Open = %s, %v, want %s", what, short(r), e, short(w.report(place)))
			continue
		}
		wantAllOnce(t, what, d, r)
	}
}

// wantAllOnce: P12.3: the pages 0, 1, Pages, and those whose bit is 0, are all pages, each once.
func wantAllOnce(t *testing.T, what string, d *device.Device, r audit.Report) {
	t.Helper()
	all := append([]int{0, 1}, r.Pages...)
	bits := chainOf(d.Image(), r.Super.Free)
	for page := range d.Pages() {
		if bits[page/8]&(1<<(page%8)) == 0 {
			all = append(all, page)
		}
	}
	slices.Sort(all)
	for i, page := range all {
		if i != page {
			t.Errorf("%s: page %d is none of the two superblocks, what is reached, and what is free, or is several", what, i)
			return
		}
	}
	if len(all) != d.Pages() {
		t.Errorf("%s: of %d pages %d are told", what, d.Pages(), len(all))
	}
}

// chainOf reads a chain that is in order.
func chainOf(image []byte, page int) []byte {
	var b []byte
	for page != 0 {
		p := image[page*api.PageSize:][:api.PageSize]
		b = append(b, p[12:12+int(binary.BigEndian.Uint16(p[6:]))]...)
		page = int(binary.BigEndian.Uint32(p[8:]))
	}
	return b
}

func isZero(r audit.Report) bool {
	return r.Super == (api.Super{}) && r.Place == 0 && len(r.Pieces)+len(r.Text)+len(r.State)+len(r.Pages) == 0
}

// wantBoth: R2, zero values beside the error of both.
func wantBoth(t *testing.T, what string, w *world, want api.Errno) {
	t.Helper()
	if r, e := audit.Walk(w.device(), w.super); e != want || !isZero(r) {
		t.Errorf("%s: Walk = %s, %v, want nothing, %v", what, short(r), e, want)
	}
	for place := range 2 {
		if r, e := audit.Open(w.at(place)); e != want || !isZero(r) {
			t.Errorf("%s: Open = %s, %v, want nothing, %v", what, short(r), e, want)
		}
	}
}

func wantCorrupt(t *testing.T, what string, w *world) {
	t.Helper()
	wantBoth(t, what, w, api.ErrCorrupt)
}

// always answers one number for the root and another for all others.
func always(root, others int) func(bool) int {
	return func(isRoot bool) int {
		if isRoot {
			return root
		}
		return others
	}
}

// leanest is the shape of the least tree of a height.
func leanest(height int) shape {
	return shape{height: height, kids: always(2, 6), pieces: always(1, 10), new: 4}
}

// anyShape is one of the heights 1 to 3 with any numbers of kids and pieces that may be.
func anyShape(r *rand.Rand) shape {
	from := func(least, most int) int { return least + r.Intn(most-least+1) }
	return shape{
		height: from(1, 3),
		kids: func(root bool) int {
			if root {
				return from(2, 4)
			}
			return from(6, 8)
		},
		pieces: func(root bool) int {
			if root {
				return from(1, 20)
			}
			return from(10, 20)
		},
		new: r.Intn(15),
	}
}

// P12.1: trees of each height that finds room on a device, as lean as they may be.
func TestLeanTrees(t *testing.T) {
	for height := 1; height <= 6; height++ {
		r := rand.New(rand.NewSource(int64(height)))
		s := leanest(height)
		size := 4096
		if height < 4 {
			size = 64
		}
		if height > 4 {
			s.new, s.long = 0, 30
		}
		wantSound(t, fmt.Sprint("height ", height), grown(r, size, s))
		wantSound(t, fmt.Sprint("height ", height, " with a state"), grown(r, size, s).hold(lines(r, 300)))
	}
}

// P12.1: trees of the greatest pages.
func TestFullTrees(t *testing.T) {
	for height := 1; height <= 3; height++ {
		r := rand.New(rand.NewSource(int64(height)))
		s := shape{height: height, kids: always(12, 12), pieces: always(20, 20), new: 1}
		wantSound(t, fmt.Sprint("height ", height), grown(r, 1000, s).hold(lines(r, 1000)))
	}
}

// P12.1, P12.2, P12.3: many worlds, with a state and without one.
func TestManyWorlds(t *testing.T) {
	r := rand.New(rand.NewSource(1))
	for i := range 400 {
		size := 130 + r.Intn(200)
		w := grown(r, size, anyShape(r))
		if i%2 == 0 {
			w.hold(lines(r, 1+r.Intn(1000)))
		}
		wantSound(t, fmt.Sprint("world ", i), w)
	}
}

// P12.1: of Root 0 nothing; what is left is the chains.
func TestEmptyTexts(t *testing.T) {
	r := rand.New(rand.NewSource(2))
	for _, size := range []int{8, 9, 15, 16, 17, 255, 256, 257, 1951, 1952, 1953, 1960, 1961, 3904, 3905, 4095, 4096} {
		wantSound(t, fmt.Sprint(size, " pages"), bare(r, size))
		wantSound(t, fmt.Sprint(size, " pages with a state"), bare(r, size).hold([]byte{7}))
	}
}

// P12.1: chains of one page and of several, at the edges of a page.
func TestStates(t *testing.T) {
	r := rand.New(rand.NewSource(3))
	for _, n := range []int{1, 2, room - 1, room, room + 1, 2 * room, 2*room + 1, 9 * room, 9*room + 100} {
		wantSound(t, fmt.Sprint("a state of ", n), bare(r, 64).hold(lines(r, n)))
		wantSound(t, fmt.Sprint("a state of noughts of ", n), bare(r, 64).hold(make([]byte, n)))
		wantSound(t, fmt.Sprint("a text and a state of ", n), grown(r, 64, leanest(2)).hold(lines(r, n)))
	}
	w := bare(r, 4096)
	wantSound(t, "the greatest state", w.hold(lines(r, len(w.spare)*room)))
}

// P12.1: all pages of a device are reached.
func TestNoPageFree(t *testing.T) {
	r := rand.New(rand.NewSource(4))
	for _, size := range []int{8, 9, 16, 40, 41} {
		w := bare(r, size)
		wantSound(t, "by a state", w.hold(lines(r, len(w.spare)*room)))
		w = grown(r, size, shape{height: 1, pieces: always(2, 0), new: 0})
		wantSound(t, "by a text and a state", w.hold(lines(r, len(w.spare)*room-5)))
	}
}

// P12.1: a text of MaxText bytes, and the empty one's neighbour.
func TestTextsAtTheirLimits(t *testing.T) {
	r := rand.New(rand.NewSource(5))
	w := grown(r, 32, shape{height: 1, pieces: always(1, 0)})
	w.texts[w.pieces[0].Page] = []byte{10}
	w.leaves[w.super.Root][0] = api.Piece{Page: w.pieces[0].Page, Len: 1, Lines: 1}
	w.pieces = slices.Clone(w.leaves[w.super.Root])
	w.mend()
	wantSound(t, "one byte", w)

	w = grown(r, 1000, shape{height: 4, kids: always(2, 12), pieces: always(0, 20)})
	only := w.pieces[0].Page
	w.texts[only] = lines(r, full)
	left, count := api.MaxText, len(w.pieces)
	w.pieces = nil
	w.walkLeaves(w.super.Root, func(p *api.Piece) {
		n := left / count
		*p = api.Piece{Page: only, Off: r.Intn(full - n + 1), Len: n}
		left, count = left-n, count-1
	})
	w.mend()
	w.walkLeaves(w.super.Root, func(p *api.Piece) { w.pieces = append(w.pieces, *p) })
	if w.super.Bytes != api.MaxText {
		t.Fatalf("%d bytes", w.super.Bytes)
	}
	wantSound(t, "MaxText bytes", w)
	w.walkLeaves(w.super.Root, func(p *api.Piece) {
		if w.super.Bytes == api.MaxText && p.Off+p.Len < full {
			p.Len++
			w.mend()
		}
	})
	if r, e := audit.Walk(w.device(), w.super); w.super.Bytes != api.MaxText+1 || e != api.ErrArg || !isZero(r) {
		t.Errorf("Walk of one byte more = %v", e)
	}
	w.super.Bytes = api.MaxText
	wantCorrupt(t, "one byte more than MaxText", w)
}

// walkLeaves goes through the pieces from the left on.
func (w *world) walkLeaves(page int, do func(*api.Piece)) {
	for i := range w.leaves[page] {
		do(&w.leaves[page][i])
	}
	for _, k := range w.inners[page].kids {
		w.walkLeaves(k.Page, do)
	}
}

// The example of the chapter.
func TestExample(t *testing.T) {
	for _, size := range []int{8, 9, 100, 4096} {
		d, _ := device.New(size)
		if r, e := audit.Open(d); e != api.ErrCorrupt || !isZero(r) {
			t.Errorf("Open of a new device of %d pages = %s, %v", size, short(r), e)
		}
	}
}

// P12.1, P12.2: no device; one that no call made.
func TestNoDevice(t *testing.T) {
	good := api.Super{Gen: 1, Pages: 8}
	if r, e := audit.Walk(nil, good); e != api.ErrArg || !isZero(r) {
		t.Errorf("Walk(nil) = %s, %v", short(r), e)
	}
	if r, e := audit.Walk(nil, api.Super{}); e != api.ErrArg || !isZero(r) {
		t.Errorf("Walk(nil, none) = %s, %v", short(r), e)
	}
	if r, e := audit.Open(nil); e != api.ErrArg || !isZero(r) {
		t.Errorf("Open(nil) = %s, %v", short(r), e)
	}
	if r, e := audit.Walk(&device.Device{}, good); e != api.ErrCorrupt || !isZero(r) {
		t.Errorf("Walk of a device that no call made = %s, %v", short(r), e)
	}
	if r, e := audit.Walk(&device.Device{}, api.Super{}); e != api.ErrArg || !isZero(r) {
		t.Errorf("Walk of a device that no call made, with no superblock = %s, %v", short(r), e)
	}
	if r, e := audit.Open(&device.Device{}); e != api.ErrIO || !isZero(r) {
		t.Errorf("Open of a device that no call made = %s, %v", short(r), e)
	}
}

// refused are superblocks that super.Check refuses, each by one number of s.
func refused(s api.Super) []api.Super {
	var l []api.Super
	with := func(change func(s *api.Super, n int), numbers ...int) {
		for _, n := range numbers {
			other := s
			change(&other, n)
			l = append(l, other)
		}
	}
	with(func(s *api.Super, n int) { s.Gen = n }, 0, -1, 1<<60+1, math.MinInt, math.MaxInt)
	with(func(s *api.Super, n int) { s.Pages = n }, 0, -1, 7, 4097, math.MinInt, math.MaxInt)
	with(func(s *api.Super, n int) { s.Root = n }, 0, 1, -1, s.Pages, 4096, math.MinInt, math.MaxInt)
	with(func(s *api.Super, n int) { s.Height = n }, 0, -1, 33, math.MinInt, math.MaxInt)
	with(func(s *api.Super, n int) { s.Bytes = n }, 0, -1, api.MaxText+1, math.MinInt, math.MaxInt)
	with(func(s *api.Super, n int) { s.Lines = n }, -1, s.Bytes+1, math.MinInt, math.MaxInt)
	with(func(s *api.Super, n int) { s.State = n }, 1, -1, s.Pages, 4096, math.MinInt, math.MaxInt)
	with(func(s *api.Super, n int) { s.Free = n }, 1, -1, s.Pages, 4096, math.MinInt, math.MaxInt)
	return append(l, api.Super{})
}

// P12.1, R6: ErrArg of what super.Check refuses, whatever the device is, and ahead of its errors; no op is done.
func TestRefusedSupers(t *testing.T) {
	r := rand.New(rand.NewSource(6))
	w := grown(r, 64, leanest(2)).hold(lines(r, 9))
	fresh, _ := device.New(64)
	dead := w.at(0)
	dead.Fuse(0)
	dead.Sync()
	for _, s := range refused(w.super) {
		for _, d := range []*device.Device{w.at(0), fresh, dead} {
			before := d.Ops()
			if r, e := audit.Walk(d, s); e != api.ErrArg || !isZero(r) || d.Ops() != before {
				t.Errorf("Walk of %+v = %s, %v", s, short(r), e)
			}
		}
	}
}

// P12.2: a superblock on the device that super.Check refuses is none.
func TestRefusedSupersOnDevice(t *testing.T) {
	r := rand.New(rand.NewSource(7))
	w := grown(r, 64, leanest(2)).hold(lines(r, 9))
	for _, s := range refused(w.super) {
		if min(s.Gen, s.Pages, s.Root, s.Height, s.Bytes, s.Lines, s.State, s.Free) == math.MinInt {
			continue // In its lowest bytes it is 0, which may be.
		}
		for place := range 2 {
			d := w.device()
			d.Write(place, superSheet(s))
			if r, e := audit.Open(d); e != api.ErrCorrupt || !isZero(r) {
				t.Errorf("Open with %+v = %s, %v", s, short(r), e)
			}
			d = w.at(1 - place)
			d.Write(place, superSheet(s))
			if r, e := audit.Open(d); e != api.OK || !sameReport(r, w.report(1-place)) {
				t.Errorf("Open with %+v beside a good one = %s, %v", s, short(r), e)
			}
		}
	}
}

// P12.2: of two superblocks the later one is walked; if that one is not in order, the other one does not help.
func TestTwoSupers(t *testing.T) {
	r := rand.New(rand.NewSource(8))
	w := grown(r, 64, leanest(2)).hold(lines(r, 9))
	w.super.Gen = 5
	for place := range 2 {
		for _, gen := range []int{1, 4, 5, 6, 1 << 60} {
			other := w.super
			other.Gen, other.Bytes = gen, other.Bytes+1
			d := w.at(place)
			d.Write(1-place, superSheet(other))
			r, e := audit.Open(d)
			if gen < 5 || gen == 5 && place == 0 {
				if e != api.OK || !sameReport(r, w.report(place)) {
					t.Errorf("gen 5 at %d, gen %d: %s, %v", place, gen, short(r), e)
				}
			} else if e != api.ErrCorrupt || !isZero(r) {
				t.Errorf("gen 5 at %d, a bad one of gen %d: %s, %v", place, gen, short(r), e)
			}
		}
		d := w.at(place)
		d.Write(1-place, textSheet([]byte("no superblock")))
		if r, e := audit.Open(d); e != api.OK || !sameReport(r, w.report(place)) {
			t.Errorf("beside another page: %s, %v", short(r), e)
		}
	}
}

// P12.1: Walk takes any superblock, whatever stands on page 0 and 1.
func TestWalkOfAnySuper(t *testing.T) {
	r := rand.New(rand.NewSource(9))
	w := grown(r, 64, leanest(2)).hold(lines(r, 9))
	d := w.at(0)
	other := w.super
	other.Gen = 1 << 60
	if r, e := audit.Walk(d, other); e != api.OK || r.Super != other || r.Place != -1 || !bytes.Equal(r.Text, w.report(0).Text) {
		t.Errorf("Walk with another Gen = %s, %v", short(r), e)
	}
}

// P12.1: Pages that are less or more than the device's.
func TestOtherPages(t *testing.T) {
	r := rand.New(rand.NewSource(10))
	for _, size := range []int{64, 65, 71, 72, 73} {
		for _, pages := range []int{8, size - 8, size - 1, size + 1, size + 7, size + 8, 4095, 4096} {
			w := bare(r, size)
			w.super.Pages = pages
			if w.super.Free >= pages {
				continue
			}
			wantCorrupt(t, fmt.Sprint(pages, " pages told of ", size), w)
			// The free map is as long as those Pages ask for.
			if w.remap((pages + 7) / 8); w.super.Free < pages {
				wantCorrupt(t, fmt.Sprint(pages, " pages told of ", size, ", and mapped"), w)
			}
		}
	}
}

// P12.1: Bytes and Lines of the superblock that are not what lies below Root.
func TestSuperNumbers(t *testing.T) {
	r := rand.New(rand.NewSource(11))
	for height := 1; height <= 3; height++ {
		w := grown(r, 64, leanest(height))
		if height == 1 {
			w.texts[w.pieces[0].Page] = []byte("a\nb\nc\n")
			w.leaves[w.super.Root][0] = api.Piece{Page: w.pieces[0].Page, Off: 1, Len: 4}
			w.mend()
		}
		right := w.super
		for _, by := range []int{-3, -2, -1, 1, 2, 3, 1000} {
			w.super = right
			if w.super.Bytes += by; w.super.Bytes > 0 && w.super.Bytes >= w.super.Lines {
				wantCorrupt(t, fmt.Sprint("height ", height, ", Bytes by ", by), w)
			}
			w.super = right
			if w.super.Lines += by; w.super.Lines >= 0 && w.super.Lines <= w.super.Bytes {
				wantCorrupt(t, fmt.Sprint("height ", height, ", Lines by ", by), w)
			}
		}
		w.super = right
		w.super.Bytes, w.super.Lines = api.MaxText, api.MaxText
		wantCorrupt(t, fmt.Sprint("height ", height, ", the greatest"), w)
	}
}

// P12.1: Height that is another than the tree's, and Level that is another than the place asks for.
func TestHeights(t *testing.T) {
	r := rand.New(rand.NewSource(12))
	for height := 1; height <= 4; height++ {
		w := grown(r, 256, leanest(height))
		for other := 1; other <= 32; other++ {
			if other != height {
				w.super.Height = other
				wantCorrupt(t, fmt.Sprint("height ", height, " told as ", other), w)
			}
		}
		w.super.Height = height
		for page, in := range w.inners {
			right := in
			for level := 1; level <= 32; level++ {
				if level != right.level {
					in.level = level
					w.inners[page] = in
					wantCorruptWalk(t, fmt.Sprint("level ", level, " instead of ", right.level), w)
				}
			}
			w.inners[page] = right
		}
	}
}

// wantCorruptWalk is for what is asked so often that one way must do.
func wantCorruptWalk(t *testing.T, what string, w *world) {
	t.Helper()
	if r, e := audit.Walk(w.device(), w.super); e != api.ErrCorrupt || !isZero(r) {
		t.Errorf("%s: Walk = %s, %v, want nothing, ErrCorrupt", what, short(r), e)
	}
}

// P12.1: all levels of the tree told one too high or too low, so that they fit each other.
func TestLevelsMoved(t *testing.T) {
	r := rand.New(rand.NewSource(13))
	for height := 2; height <= 4; height++ {
		for _, by := range []int{-1, 1} {
			w := grown(r, 256, leanest(height))
			for page, in := range w.inners {
				in.level += by
				w.inners[page] = in
			}
			for page, in := range w.inners {
				if in.level == 0 {
					delete(w.inners, page)
					w.over[page] = innerSheet(0, in.kids)
				}
			}
			wantCorrupt(t, fmt.Sprint("height ", height, ", levels by ", by), w)
			w.super.Height += by
			wantCorrupt(t, fmt.Sprint("height ", height, ", levels and height by ", by), w)
		}
	}
}

// P12.1: a root with 1 kid and 2, an inner page below it with 5 and 6; and the greatest.
func TestFewKids(t *testing.T) {
	r := rand.New(rand.NewSource(14))
	for height := 2; height <= 4; height++ {
		for n := 1; n <= 12; n++ {
			w := grown(r, 700, shape{height: height, kids: always(n, 6), pieces: always(0, 10), new: 2})
			if n < 2 {
				wantCorrupt(t, fmt.Sprint("height ", height, ", a root of ", n), w)
			} else {
				wantSound(t, fmt.Sprint("height ", height, ", a root of ", n), w)
			}
		}
	}
	for height := 3; height <= 4; height++ {
		for at := range 14 {
			for _, n := range []int{1, 2, 5, 6, 7, 12} {
				what := fmt.Sprint("height ", height, ", inner page ", at, " below the root of ", n)
				w := grown(r, 700, shape{height: height, kids: odd(at, 2, 6, n), pieces: always(0, 10), new: 2})
				if at > 1 && height == 3 {
					continue
				}
				if n < 6 {
					wantCorrupt(t, what, w)
				} else {
					wantSound(t, what, w)
				}
			}
		}
	}
}

// odd is always of the root and the others, but for the at-th of those.
func odd(at, root, others, one int) func(bool) int {
	return func(isRoot bool) int {
		if isRoot {
			return root
		}
		at--
		if at == -1 {
			return one
		}
		return others
	}
}

// P12.1: a leaf that is not Root with each number of pieces; one that is.
func TestFewPieces(t *testing.T) {
	r := rand.New(rand.NewSource(15))
	for n := 1; n <= 20; n++ {
		wantSound(t, fmt.Sprint("a root of ", n, " pieces"), grown(r, 64, shape{height: 1, pieces: always(n, 0), new: 30}))
		for height := 2; height <= 3; height++ {
			for at := range 12 {
				if height == 2 && at > 1 {
					continue
				}
				what := fmt.Sprint("height ", height, ", leaf ", at, " of ", n)
				w := grown(r, 100, shape{height: height, kids: always(2, 6), pieces: odd(at, 0, 10, n), new: 2})
				if n < 10 {
					wantCorrupt(t, what, w)
				} else {
					wantSound(t, what, w)
				}
			}
		}
	}
}

// P12.1: each of a kid's numbers, one too great and one too small, at each kid, with all else as it was.
func TestKidsNumbers(t *testing.T) {
	r := rand.New(rand.NewSource(16))
	for height := 2; height <= 3; height++ {
		w := grown(r, 64, leanest(height))
		for page, in := range w.inners {
			for i, right := range in.kids {
				for _, by := range []int{-1, 1, 7, 100} {
					for what, k := range []api.Kid{
						{Page: right.Page, Pieces: right.Pieces + by, Bytes: right.Bytes, Lines: right.Lines},
						{Page: right.Page, Pieces: right.Pieces, Bytes: right.Bytes + by, Lines: right.Lines},
						{Page: right.Page, Pieces: right.Pieces, Bytes: right.Bytes, Lines: right.Lines + by},
					} {
						if k.Bytes < k.Pieces || k.Lines < 0 || k.Lines > k.Bytes {
							continue
						}
						in.kids[i] = k
						wantCorruptWalk(t, fmt.Sprint("height ", height, ", page ", page, ", kid ", i, ", number ", what, " by ", by), w)
					}
				}
				in.kids[i] = right
			}
		}
		wantSound(t, "as it was", w)
	}
}

// P12.1: a kid's number that is wrong, and those above it, so that they fit each other: only what lies below tells.
func TestKidsNumbersUpToTheRoot(t *testing.T) {
	r := rand.New(rand.NewSource(17))
	for _, by := range []int{-1, 1} {
		for what := range 3 {
			w := grown(r, 64, leanest(3))
			top := w.inners[w.super.Root].kids
			low := w.inners[top[1].Page].kids
			for _, k := range []*api.Kid{&top[1], &low[4]} {
				*[]*int{&k.Pieces, &k.Bytes, &k.Lines}[what] += by
			}
			*[]*int{new(int), &w.super.Bytes, &w.super.Lines}[what] += by
			wantCorrupt(t, fmt.Sprint("number ", what, " by ", by), w)
		}
	}
}

// P12.1: two kids that are wrong by as much, one up, one down: their sum is right.
func TestKidsThatMakeUp(t *testing.T) {
	r := rand.New(rand.NewSource(18))
	for height := 2; height <= 3; height++ {
		w := grown(r, 64, leanest(height))
		for page, in := range w.inners {
			for what := range 3 {
				right := slices.Clone(in.kids)
				for i, by := range []int{1, -1} {
					k := &in.kids[i]
					*[]*int{&k.Pieces, &k.Bytes, &k.Lines}[what] += by
				}
				wantCorruptWalk(t, fmt.Sprint("page ", page, ", number ", what), w)
				copy(in.kids, right)
			}
			if a, b := in.kids[0], in.kids[1]; a.Pieces != b.Pieces || a.Bytes != b.Bytes || a.Lines != b.Lines {
				in.kids[0].Page, in.kids[1].Page = b.Page, a.Page
				wantCorruptWalk(t, fmt.Sprint("page ", page, ", two pages in each other's place"), w)
				in.kids[0].Page, in.kids[1].Page = a.Page, b.Page
			}
		}
		wantSound(t, "as it was", w)
	}
}

// onePiece is a world of one leaf with one piece in a text page of n bytes, none of them 10.
func onePiece(n int) *world {
	r := rand.New(rand.NewSource(19))
	w := grown(r, 16, shape{height: 1, pieces: always(1, 0)})
	page := w.pieces[0].Page
	w.texts[page] = bytes.Repeat([]byte{'x'}, n)
	w.setPiece(api.Piece{Page: page, Len: n})
	return w
}

// setPiece makes the only leaf's only piece another one.
func (w *world) setPiece(p api.Piece) {
	w.leaves[w.super.Root] = []api.Piece{p}
	w.pieces = []api.Piece{p}
	w.mend()
}

// P12.1: a piece up to the end of its text page, and one beyond it.
func TestEndsOfPieces(t *testing.T) {
	for _, n := range []int{1, 2, 9, 100, full - 1, full} {
		w := onePiece(n)
		page := w.pieces[0].Page
		for _, off := range []int{0, 1, n / 2, n - 2, n - 1, n, n + 1} {
			for _, size := range []int{1, 2, n - off - 1, n - off, n - off + 1, n, full - off} {
				if off < 0 || size < 1 || off+size > full {
					continue
				}
				w.setPiece(api.Piece{Page: page, Off: off, Len: size})
				what := fmt.Sprint("a piece from ", off, " of ", size, " on ", n)
				if off+size <= n {
					wantSound(t, what, w)
				} else {
					wantCorrupt(t, what, w)
				}
			}
		}
	}
}

// P12.1: the same in a tree, where another piece has the text page rightly.
func TestEndsOfPiecesInTrees(t *testing.T) {
	r := rand.New(rand.NewSource(20))
	for height := 1; height <= 3; height++ {
		s := leanest(height)
		s.pieces = always(10, 10)
		w := grown(r, 64, s)
		w.walkLeaves(w.super.Root, func(p *api.Piece) {
			right := *p
			short := w.texts[p.Page]
			if len(short) > 200 {
				return
			}
			p.Off, p.Len = 0, len(short)+1
			w.mend()
			wantCorruptWalk(t, fmt.Sprint("height ", height), w)
			*p = right
		})
		w.mend()
		wantSound(t, "as it was", w)
	}
}

// P12.1: a piece whose Lines are others, while all above it fits what it says.
func TestLinesOfPieces(t *testing.T) {
	for _, text := range []string{"\n", "x", "a\nb", "\n\n\n", "ab\ncd\n", "\nab", "\r\v\n\x8a\x00"} {
		w := onePiece(len(text))
		page := w.pieces[0].Page
		w.texts[page] = []byte(text)
		for off := range text {
			for size := 1; off+size <= len(text); size++ {
				w.setPiece(api.Piece{Page: page, Off: off, Len: size})
				right := w.pieces[0]
				wantSound(t, fmt.Sprintf("%q from %d, %d", text, off, size), w)
				for n := 0; n <= size; n++ {
					if n != right.Lines {
						w.leaves[w.super.Root][0].Lines, w.super.Lines = n, n
						wantCorrupt(t, fmt.Sprintf("%q from %d, %d: Lines %d", text, off, size, n), w)
					}
				}
			}
		}
	}
}

// P12.1: two pieces whose Lines are wrong by as much, one up, one down, in one leaf and in two.
func TestLinesThatMakeUp(t *testing.T) {
	r := rand.New(rand.NewSource(21))
	for height := 1; height <= 3; height++ {
		s := leanest(height)
		s.pieces = always(10, 10)
		for range 20 {
			w := grown(r, 64, s)
			var less, more []*api.Piece
			w.walkLeaves(w.super.Root, func(p *api.Piece) {
				if p.Lines > 0 {
					less = append(less, p)
				}
				if p.Lines < p.Len {
					more = append(more, p)
				}
			})
			a, b := less[r.Intn(len(less))], more[r.Intn(len(more))]
			if a == b {
				continue
			}
			a.Lines--
			b.Lines++
			w.below(w.super.Root)
			wantCorrupt(t, fmt.Sprint("height ", height), w)
		}
	}
}

// kinds are pages of each Kind that may be, and some that may not.
func kinds() map[string][]byte {
	piece := []api.Piece{{Page: 9, Len: 1}}
	return map[string][]byte{
		"a superblock":           superSheet(api.Super{Gen: 1, Pages: 64}),
		"an inner page":          innerSheet(1, []api.Kid{{Page: 9, Pieces: 1, Bytes: 1}, {Page: 8, Pieces: 1, Bytes: 1}}),
		"a leaf":                 leafSheet(piece),
		"a full leaf":            leafSheet(slices.Repeat(piece, 20)),
		"a text page":            textSheet([]byte("text")),
		"a full text page":       textSheet(make([]byte, full)),
		"a chain's page":         linkSheet(0, []byte("link")),
		"a chain's page with on": linkSheet(9, make([]byte, room)),
		"noughts":                make([]byte, api.PageSize),
		"Kind 0":                 sheet(0, 0, 1, []byte{1}),
		"Kind 6":                 sheet(6, 0, 1, []byte{1}),
		"a leaf of a Level":      sheet(api.KindLeaf, 1, 1, laid(4, 9, 2, 0, 2, 1, 4, 0)),
		"an inner page of none":  sheet(api.KindInner, 0, 1, laid(4, 9, 4, 1, 8, 1, 4, 0)),
	}
}

// kind is that of a page as it stands in the world.
func (w *world) kind(page int) int {
	return int(w.device().Image()[page*api.PageSize+4])
}

// P12.1: each page that is reached is another than it must be.
func TestOtherKinds(t *testing.T) {
	r := rand.New(rand.NewSource(22))
	for height := 1; height <= 3; height++ {
		w := grown(r, 64, leanest(height)).hold(lines(r, 300))
		wantSound(t, "as it was", w)
		for _, page := range w.pages() {
			own := w.kind(page)
			for what, b := range kinds() {
				// Another text, and another state, may be.
				if kind := int(b[4]); kind != own || kind != api.KindText && kind != api.KindBlob {
					w.over[page] = b
					wantCorruptWalk(t, fmt.Sprint("height ", height, ", page ", page, " is ", what), w)
				}
			}
			delete(w.over, page)
		}
	}
}

// P12.1: a bit that is turned on any page that is reached; on one that is not nobody asks.
func TestTurnedBits(t *testing.T) {
	r := rand.New(rand.NewSource(23))
	w := grown(r, 40, leanest(2)).hold(lines(r, 300))
	image := w.device().Image()
	for page := range w.size {
		for range 12 {
			bit := r.Intn(8 * api.PageSize)
			image[page*api.PageSize+bit/8] ^= 1 << (bit % 8)
			d, _ := device.Load(image)
			got, e := audit.Walk(d, w.super)
			if _, reached := slices.BinarySearch(w.pages(), page); reached {
				if e != api.ErrCorrupt || !isZero(got) {
					t.Errorf("page %d, bit %d: %s, %v", page, bit, short(got), e)
				}
			} else if e != api.OK || !sameReport(got, w.report(-1)) {
				t.Errorf("page %d is not reached, bit %d: %s, %v", page, bit, short(got), e)
			}
			image[page*api.PageSize+bit/8] ^= 1 << (bit % 8)
		}
	}
}

// P12.1: pages beyond the device's end, told by a piece, a kid, a chain: the last page is one, the next is none.
func TestPagesBeyondTheEnd(t *testing.T) {
	for _, page := range []int{64, 65, 72, 100, 4095} {
		r := rand.New(rand.NewSource(24))
		w := onePiece(9)
		w.setPiece(api.Piece{Page: page, Len: 9})
		wantCorrupt(t, fmt.Sprint("a piece on ", page), w)

		for height := 2; height <= 3; height++ {
			w = grown(r, 64, leanest(height))
			for at, in := range w.inners {
				for i, right := range in.kids {
					in.kids[i].Page = page
					wantCorruptWalk(t, fmt.Sprint("a kid of ", at, " on ", page), w)
					in.kids[i] = right
				}
			}
		}

		w = bare(r, 64).hold(lines(r, 3*room))
		for at, l := range w.links {
			if len(l.bytes) == room {
				w.links[at] = link{page, l.bytes}
				wantCorrupt(t, fmt.Sprint("a chain from ", at, " on to ", page), w)
				w.links[at] = l
			}
		}
	}
}

// P12.1: the last page of the device as each thing that may be reached.
func TestLastPage(t *testing.T) {
	seen := map[string]int{}
	for seed := range int64(300) {
		r := rand.New(rand.NewSource(seed))
		s := leanest(3)
		s.new = 0
		w := grown(r, 20+r.Intn(3), s)
		w.hold(lines(r, 20))
		last := w.size - 1
		switch what := w.kind(last); {
		case last == w.super.State:
			seen["State"]++
		case last == w.super.Free:
			seen["Free"]++
		case what > 0:
			seen[fmt.Sprint("Kind ", what)]++
		}
		wantSound(t, fmt.Sprint("seed ", seed), w)
	}
	if len(seen) != 5 {
		t.Errorf("the last page was %v alone", seen)
	}
}

// tripled is a world with each thing twice at least: a tree of height 3, a state of three pages, and a free map of two.
func tripled(seed int64) *world {
	r := rand.New(rand.NewSource(seed))
	return grown(r, 2000, leanest(3)).hold(lines(r, 3*room-5))
}

// P12.1: a kid leads to a page that is reached as something else, or as the same, at its own place or another.
func TestKidsReachedTwice(t *testing.T) {
	w := tripled(25)
	for at, in := range w.inners {
		for i, right := range in.kids {
			for _, page := range w.pages() {
				if page != right.Page {
					in.kids[i].Page = page
					wantCorruptWalk(t, fmt.Sprint("kid ", i, " of ", at, " on ", page), w)
				}
			}
			in.kids[i] = right
		}
	}
	wantSound(t, "as it was", w)
}

// P12.1: two kids that are the same leaf, two that are the same inner page, with all numbers and the free map right.
func TestSameKidTwice(t *testing.T) {
	for height := 2; height <= 4; height++ {
		r := rand.New(rand.NewSource(26))
		w := grown(r, 256, leanest(height))
		kids := w.inners[w.super.Root].kids
		w.forget(kids[1].Page)
		kids[1] = kids[0]
		w.mend()
		wantCorrupt(t, fmt.Sprint("height ", height), w)
	}
	r := rand.New(rand.NewSource(27))
	w := grown(r, 256, leanest(3))
	kids := w.inners[w.super.Root].kids
	own := w.inners[kids[1].Page].kids
	for i, other := range w.inners[kids[0].Page].kids {
		w.forget(own[i].Page)
		own[i] = other
	}
	w.mend()
	wantCorrupt(t, "the leaves of another page", w)
}

// forget takes a page, and all that lies below it but the texts, out of the world.
func (w *world) forget(page int) {
	for _, k := range w.inners[page].kids {
		w.forget(k.Page)
	}
	delete(w.inners, page)
	delete(w.leaves, page)
}

// P12.1: a page that is both a text page of one leaf and something else can't be told right; one that several leaves share may be.
func TestSharedTextPages(t *testing.T) {
	r := rand.New(rand.NewSource(28))
	s := leanest(3)
	s.new = 0
	w := grown(r, 64, s)
	if len(w.texts) != 1 {
		t.Fatal("more than one text page")
	}
	wantSound(t, "one text page of all", w)
	text := w.pieces[0].Page
	w.walkLeaves(w.super.Root, func(p *api.Piece) { *p = api.Piece{Page: text, Len: len(w.texts[text])} })
	w.pieces = slices.Repeat([]api.Piece{{Page: text, Len: len(w.texts[text])}}, len(w.pieces))
	w.mend()
	wantSound(t, "all pieces alike", w)
}

// P12.1: a piece leads to a page that is reached as another thing.
func TestPiecesOnOtherPages(t *testing.T) {
	w := tripled(29)
	var others []int
	for _, page := range w.pages() {
		if len(w.texts[page]) == 0 {
			others = append(others, page)
		}
	}
	count := 0
	w.walkLeaves(w.super.Root, func(p *api.Piece) {
		if count++; count%7 != 1 {
			return
		}
		right := p.Page
		for _, page := range append(others, w.spare[:3]...) {
			p.Page = page
			wantCorruptWalk(t, fmt.Sprint("a piece on ", page), w)
		}
		p.Page = right
	})
	wantSound(t, "as it was", w)
}

// P12.1: State and Free lead into each other, and to pages that are other things.
func TestChainsReachedTwice(t *testing.T) {
	w := tripled(30)
	right := w.super
	for _, page := range w.pages() {
		w.super = right
		if w.super.State = page; page != right.State {
			wantCorruptWalk(t, fmt.Sprint("State ", page), w)
		}
		w.super = right
		if w.super.Free = page; page != right.Free {
			wantCorruptWalk(t, fmt.Sprint("Free ", page), w)
		}
		w.super = right
		for at, l := range w.links {
			if len(l.bytes) == room && page != l.next {
				w.links[at] = link{page, l.bytes}
				wantCorruptWalk(t, fmt.Sprint("from ", at, " on to ", page), w)
				w.links[at] = l
			}
		}
	}
	wantSound(t, "as it was", w)
}

// P12.1: State and Free are one chain, of bytes that are the right map.
func TestStateIsFree(t *testing.T) {
	for _, size := range []int{8, 64, 2000} {
		w := bare(rand.New(rand.NewSource(31)), size)
		w.super.State = w.super.Free
		wantCorrupt(t, fmt.Sprint(size, " pages"), w)
	}
}

// P12.1: Root is a page of a chain, or the first of both.
func TestRootIsAnotherThing(t *testing.T) {
	w := tripled(32)
	right := w.super.Root
	for _, page := range w.pages() {
		for height := 1; height <= 3; height++ {
			if w.super.Root, w.super.Height = page, height; page != right {
				wantCorruptWalk(t, fmt.Sprint("Root ", page, " of height ", height), w)
			}
		}
	}
}

// P12.1, P12.2: chains that go round, of one page and of several, end.
func TestRoundChains(t *testing.T) {
	for length := 1; length <= 6; length++ {
		for back := range length {
			for _, state := range []bool{true, false} {
				w := bare(rand.New(rand.NewSource(33)), 64)
				ring := []int{}
				for range length {
					ring = append(ring, w.take())
				}
				for i, page := range ring {
					w.links[page] = link{append(ring[1:len(ring):len(ring)], ring[back])[i], make([]byte, room)}
				}
				if state {
					w.super.State = ring[0]
					bits := make([]byte, 8)
					for _, page := range append(w.pages(), 0, 1) {
						bits[page/8] |= 1 << (page % 8)
					}
					w.setFree(bits)
				} else {
					w.super.Free = ring[0]
				}
				wantCorrupt(t, fmt.Sprint("a ring of ", length, " back to ", back), w)
			}
		}
	}
}

// P12.1, P12.2: trees that go round, of every height, end.
func TestRoundTrees(t *testing.T) {
	for height := 2; height <= 32; height++ {
		for _, n := range []int{2, 6, 12} {
			w := bare(rand.New(rand.NewSource(34)), 64)
			var pages []int
			for range height {
				pages = append(pages, w.take())
			}
			for i, page := range pages {
				kid := api.Kid{Page: pages[(i+1)%height], Pieces: 10, Bytes: 10}
				w.inners[page] = inner{max(1, height-1-i), slices.Repeat([]api.Kid{kid}, n)}
			}
			w.super.Root, w.super.Height, w.super.Bytes = pages[0], height, 10*n
			w.mapFree()
			wantCorrupt(t, fmt.Sprint("down and round, height ", height, ", ", n, " kids"), w)
			self := []api.Kid{{Page: pages[0], Pieces: 10, Bytes: 10}}
			w.inners[pages[0]] = inner{height - 1, slices.Repeat(self, n)}
			wantCorrupt(t, fmt.Sprint("itself, height ", height, ", ", n, " kids"), w)
		}
	}
}

// P12.1: a free map that is a byte shorter or longer, or by a page, with all bits that it has right; and one with a byte more that is not nought.
func TestFreeMapsLength(t *testing.T) {
	r := rand.New(rand.NewSource(35))
	for _, size := range []int{8, 9, 16, 17, 63, 64, 65, 1000, 1944, 1945, 1952, 1953, 1960, 1961, 3904, 3905, 4096} {
		w := grown(r, size, shape{height: 1, pieces: always(1, 0)})
		need := len(w.freeBits())
		for _, n := range []int{1, 2, need - 2, need - 1, need, need + 1, need + 2, room - 1, room, room + 1, need + room, 2 * room, 4 * room} {
			if n < 1 || n > 3*room && size < 16 {
				continue
			}
			w.remap(n)
			what := fmt.Sprint(size, " pages, ", n, " bytes")
			if n == need {
				wantSound(t, what, w)
				continue
			}
			wantCorrupt(t, what, w)
			if n > need {
				bits := w.freeBits()
				bits[need] = 1
				w.setFree(bits)
				wantCorrupt(t, what+", and a bit", w)
			}
		}
	}
}

// P12.1: Free 0: there is no map.
func TestNoFreeMap(t *testing.T) {
	r := rand.New(rand.NewSource(38))
	for _, w := range []*world{bare(r, 8), bare(r, 64), grown(r, 64, leanest(2)), bare(r, 64).hold([]byte{1})} {
		w.super.Free = 0
		wantCorrupt(t, "no map", w)
	}
}

// P12.1: each bit of the free map, turned: those of page 0 and 1, of what is reached and what is not, of the last page and behind it.
func TestFreeMapsBits(t *testing.T) {
	for _, size := range []int{61, 62, 63, 64, 65, 1999} {
		r := rand.New(rand.NewSource(39))
		w := grown(r, size, leanest(2)).hold(lines(r, 300))
		wantSound(t, "as it was", w)
		right := w.freeBits()
		for bit := range 8 * len(right) {
			if size > 100 && bit > 20 && bit < size-40 && r.Intn(20) > 0 {
				continue
			}
			turned := slices.Clone(right)
			turned[bit/8] ^= 1 << (bit % 8)
			w.setFree(turned)
			wantCorruptWalk(t, fmt.Sprint(size, " pages, bit ", bit), w)
		}
	}
}

// P12.1: the bits stand from the lowest on, page 0 in the first byte: other orders are refused.
func TestFreeMapsOrder(t *testing.T) {
	r := rand.New(rand.NewSource(40))
	w := grown(r, 64, leanest(2))
	right := w.freeBits()
	back := slices.Clone(right)
	slices.Reverse(back)
	turned := slices.Clone(right)
	for i, b := range right {
		turned[i] = 0
		for bit := range 8 {
			turned[i] |= b >> bit & 1 << (7 - bit)
		}
	}
	not := slices.Clone(right)
	for i := range not {
		not[i] ^= 255
	}
	for what, bits := range [][]byte{back, turned, not, make([]byte, 8), bytes.Repeat([]byte{255}, 8)} {
		w.setFree(bits)
		wantCorrupt(t, fmt.Sprint("order ", what), w)
	}
}

// P12.3: a page that stands as a good one and is not reached is free, or the map is wrong.
func TestPagesNotReached(t *testing.T) {
	r := rand.New(rand.NewSource(41))
	w := grown(r, 64, leanest(2)).hold([]byte("state"))
	for what, b := range kinds() {
		for _, page := range w.spare {
			w.over[page] = b
		}
		wantSound(t, what, w)
		bits := w.freeBits()
		page := w.spare[r.Intn(len(w.spare))]
		bits[page/8] |= 1 << (page % 8)
		w.setFree(bits)
		wantCorrupt(t, what+", and its bit set", w)
		w.mapFree()
	}
}

// leads tells how often something leads to each page.
func (w *world) leads() map[int]int {
	n := map[int]int{0: 1, 1: 1}
	for _, page := range []int{w.super.Root, w.super.State, w.super.Free} {
		n[page]++
	}
	for _, in := range w.inners {
		for _, k := range in.kids {
			n[k.Page]++
		}
	}
	for _, l := range w.leaves {
		from := map[int]bool{}
		for _, p := range l {
			from[p.Page] = true
		}
		for page := range from {
			n[page]++
		}
	}
	for _, l := range w.links {
		n[l.next]++
	}
	return n
}

// P12.2: each page is read at most once for each page that leads to it; and each that is reached is read.
func TestReads(t *testing.T) {
	r := rand.New(rand.NewSource(42))
	for range 40 {
		w := grown(r, 330, anyShape(r)).hold(lines(r, 1+r.Intn(600)))
		most := 2
		leads := w.leads()
		for _, page := range w.pages() {
			most += leads[page]
		}
		d := w.at(0)
		before := d.Ops()
		audit.Open(d)
		if n := d.Ops() - before; n < 2+len(w.pages()) || n > most {
			t.Errorf("%d reads of %d pages, at most %d", n, len(w.pages()), most)
		}
		before = d.Ops()
		audit.Walk(d, w.super)
		if n := d.Ops() - before; n < len(w.pages()) || n > most-2 {
			t.Errorf("Walk: %d reads of %d pages, at most %d", n, len(w.pages()), most-2)
		}
	}
}

// P12.1, P12.2: a read that fails, at each op; a device that dies at each op, or is dead. Behind it all is as ahead of it.
func TestFailingReads(t *testing.T) {
	r := rand.New(rand.NewSource(43))
	for height := 1; height <= 3; height++ {
		w := grown(r, 64, leanest(height)).hold(lines(r, 300))
		calls := map[string]func(*device.Device) (audit.Report, api.Errno){
			"Open": audit.Open,
			"Walk": func(d *device.Device) (audit.Report, api.Errno) { return audit.Walk(d, w.super) },
		}
		for what, call := range calls {
			d := w.at(1)
			before := d.Ops()
			call(d)
			ops := d.Ops() - before
			for n := range ops {
				for _, outcome := range []byte{1, 4, 253} {
					d := w.at(1)
					d.Outcomes(append(make([]byte, n), outcome))
					wantIO(t, fmt.Sprint(what, " fails at ", n), d, call, n+1)
					if r, e := audit.Open(d); e != api.OK || !sameReport(r, w.report(1)) {
						t.Errorf("%s: behind the failing one: %s, %v", what, short(r), e)
					}
				}
				d := w.at(1)
				d.Fuse(n)
				wantIO(t, fmt.Sprint(what, " dies at ", n), d, call, n+1)
				wantIO(t, fmt.Sprint(what, " is dead"), d, call, 0)
			}
			d = w.at(1)
			d.Outcomes(append(make([]byte, ops), 1))
			d.Fuse(ops)
			if _, e := call(d); e != api.OK {
				t.Errorf("%s: failing behind the last op: %v", what, e)
			}
		}
	}
}

// wantIO: the call ends with ErrIO at its op of that number.
func wantIO(t *testing.T, what string, d *device.Device, call func(*device.Device) (audit.Report, api.Errno), ops int) {
	t.Helper()
	before := d.Ops()
	if r, e := call(d); e != api.ErrIO || !isZero(r) || d.Ops() != before+ops {
		t.Errorf("%s: %s, %v, %d ops", what, short(r), e, d.Ops()-before)
	}
}

// R2 of outcomes that do nothing to a read: 2 modulo 3 is well.
func TestOutcomesThatDoNothing(t *testing.T) {
	w := tripled(44)
	for _, outcome := range []byte{0, 2, 3, 5, 254, 255} {
		d := w.at(0)
		d.Outcomes(bytes.Repeat([]byte{outcome}, 1000))
		if r, e := audit.Open(d); e != api.OK || !sameReport(r, w.report(0)) {
			t.Errorf("outcome %d: %s, %v", outcome, short(r), e)
		}
	}
}

// R6: what is wrong ahead of any read comes ahead of the device's error; ErrIO of the superblocks' pages ahead of all that stands there.
func TestOrderOfErrors(t *testing.T) {
	r := rand.New(rand.NewSource(45))
	w := bare(r, 64)
	d := w.at(0)
	d.Outcomes([]byte{1})
	other := w.super
	other.Pages = 65
	if r, e := audit.Walk(d, other); e != api.ErrCorrupt || !isZero(r) {
		t.Errorf("other Pages, and a failing read: %v", e)
	}
	for n := range 2 {
		for _, b := range [][]byte{make([]byte, api.PageSize), superSheet(other), superSheet(w.super)} {
			d, _ = device.New(64)
			d.Write(0, b)
			d.Write(1, b)
			d.Outcomes(append(make([]byte, n), 1))
			if r, e := audit.Open(d); e != api.ErrIO || !isZero(r) {
				t.Errorf("a failing read of page %d: %v", n, e)
			}
		}
	}
	// A good superblock on one page does not help if the other one can't be read.
	for place := range 2 {
		d = w.at(place)
		d.Outcomes(append(make([]byte, 1-place), 1))
		if r, e := audit.Open(d); e != api.ErrIO || !isZero(r) {
			t.Errorf("the other page than %d can't be read: %v", place, e)
		}
	}
}

// P12.1, P12.2: they read alone: nothing is written, nothing synced, whatever they find.
func TestReadsAlone(t *testing.T) {
	r := rand.New(rand.NewSource(46))
	for i := range 60 {
		w := grown(r, 330, anyShape(r)).hold(lines(r, 300))
		if i%2 == 1 {
			w.super.Bytes++
		}
		d := w.at(0)
		// A page that does not last yet would last behind a Sync.
		d.Write(w.spare[0], textSheet([]byte("now")))
		now, then := d.Image(), d.Crash([]byte{0}).Image()
		audit.Open(d)
		audit.Walk(d, w.super)
		audit.Walk(d, api.Super{})
		if !bytes.Equal(d.Image(), now) || !bytes.Equal(d.Crash([]byte{0}).Image(), then) {
			t.Errorf("world %d: the device was changed", i)
		}
		if !bytes.Equal(d.Crash([]byte{15, 15}).Image(), now) {
			t.Errorf("world %d: something else was written", i)
		}
	}
}

// scribble turns all that a report holds, and the room behind it.
func scribble(r audit.Report) {
	for i := range r.Pieces[:cap(r.Pieces)] {
		r.Pieces[:cap(r.Pieces)][i] = api.Piece{Page: -1, Off: -2, Len: -3, Lines: -4}
	}
	for _, b := range [][]byte{r.Text[:cap(r.Text)], r.State[:cap(r.State)]} {
		for i := range b {
			b[i] ^= 255
		}
	}
	for i := range r.Pages[:cap(r.Pages)] {
		r.Pages[:cap(r.Pages)][i] = -7
	}
}

// R4: a report shares nothing with the device, nor with another report; no two of its lists share memory.
func TestReportsShareNothing(t *testing.T) {
	r := rand.New(rand.NewSource(47))
	for i := range 40 {
		w := grown(r, 330, anyShape(r)).hold(lines(r, 1+r.Intn(600)))
		if i == 0 {
			w = onePiece(9).hold([]byte("state"))
		}
		d := w.at(0)
		image := d.Image()
		first, _ := audit.Open(d)
		second, _ := audit.Open(d)
		scribble(first)
		if !bytes.Equal(d.Image(), image) || !sameReport(second, w.report(0)) {
			t.Fatalf("world %d: something changed with a report", i)
		}
		for page := range w.size {
			d.Write(page, make([]byte, api.PageSize))
		}
		if !sameReport(second, w.report(0)) {
			t.Fatalf("world %d: a report changed with the device", i)
		}
		for which, turn := range []func(r *audit.Report){
			func(r *audit.Report) { scribble(audit.Report{Pieces: r.Pieces}); r.Pieces = second.Pieces },
			func(r *audit.Report) { scribble(audit.Report{Text: r.Text}); r.Text = second.Text },
			func(r *audit.Report) { scribble(audit.Report{State: r.State}); r.State = second.State },
			func(r *audit.Report) { scribble(audit.Report{Pages: r.Pages}); r.Pages = second.Pages },
		} {
			third, _ := audit.Open(w.at(0))
			if turn(&third); !sameReport(third, w.report(0)) {
				t.Fatalf("world %d: list %d shares memory with another one", i, which)
			}
		}
	}
}

// R5: a walk leaves nothing behind: asked again, it answers the same.
func TestAgain(t *testing.T) {
	w := tripled(48)
	d := w.at(1)
	for range 3 {
		if r, e := audit.Open(d); e != api.OK || !sameReport(r, w.report(1)) {
			t.Errorf("%s, %v", short(r), e)
		}
		if r, e := audit.Walk(d, w.super); e != api.OK || !sameReport(r, w.report(-1)) {
			t.Errorf("%s, %v", short(r), e)
		}
		other := w.super
		other.Lines++
		if _, e := audit.Walk(d, other); e != api.ErrCorrupt {
			t.Errorf("%v", e)
		}
	}
}

// wantAsModel holds Walk against the model, and tells whether it was in order.
func wantAsModel(t *testing.T, what string, d *device.Device, s api.Super) bool {
	t.Helper()
	before := d.Ops()
	got, e := audit.Walk(d, s)
	if d.Ops()-before > d.Pages() {
		t.Errorf("%s: %d reads of %d pages", what, d.Ops()-before, d.Pages())
	}
	want, ok := walked(d.Image(), s)
	if ok && (e != api.OK || !sameReport(got, want)) {
		t.Fatalf("%s: Walk = %s, %v, want %s", what, short(got), e, short(want))
	}
	if !ok && (e != api.ErrCorrupt || !isZero(got)) {
		t.Fatalf("%s: Walk = %s, %v, want nothing, ErrCorrupt", what, short(got), e)
	}
	if ok {
		wantAllOnce(t, what, d, got)
	}
	return ok
}

// alter changes one of a map's things.
func alter[V any](r *rand.Rand, m map[int]V, do func(V) V) {
	page := one(r, m)
	m[page] = do(m[page])
}

// changes are things to do to a world, each of which may leave it in order, or not.
func changes(r *rand.Rand, w *world) []func() {
	near := func(n *int) { *n = max(0, *n+r.Intn(5)-2) }
	anyPage := func() int { return r.Intn(w.size + 2) }
	piece := func() *api.Piece {
		l := w.leaves[one(r, w.leaves)]
		return &l[r.Intn(len(l))]
	}
	kid := func() *api.Kid {
		l := w.inners[one(r, w.inners)].kids
		return &l[r.Intn(len(l))]
	}
	cutPieces := func(l []api.Piece) []api.Piece { return l[:1+r.Intn(len(l))] }
	morePieces := func(l []api.Piece) []api.Piece { return slices.Concat(l, l)[:min(20, len(l)+1+r.Intn(len(l)))] }
	turnedPieces := func(l []api.Piece) []api.Piece { slices.Reverse(l); return l }
	higher := func(in inner) inner { return inner{in.level + 1, in.kids} }
	cutKids := func(in inner) inner { return inner{in.level, in.kids[:1+r.Intn(len(in.kids))]} }
	turnedKids := func(in inner) inner { slices.Reverse(in.kids); return in }
	otherText := func([]byte) []byte { return lines(r, 1+r.Intn(full)) }
	cutText := func(b []byte) []byte { return b[:1+r.Intn(len(b))] }
	otherNext := func(l link) link { return link{anyPage(), l.bytes} }
	cutLink := func(l link) link { return link{l.next, l.bytes[:r.Intn(len(l.bytes)+1)]} }
	turnBit := func() {
		if b := w.freeBits(); len(b) > 0 {
			b[r.Intn(len(b))] ^= 1 << r.Intn(8)
			w.setFree(b)
		}
	}
	return []func(){
		func() { near(&w.super.Bytes) },
		func() { near(&w.super.Lines) },
		func() { near(&w.super.Height) },
		func() { near(&w.super.Pages) },
		func() { w.super.Root = anyPage() },
		func() { w.super.State = anyPage() },
		func() { w.super.Free = anyPage() },
		func() { w.super.State = 0 },
		func() { w.super.State = w.link(lines(r, r.Intn(700))) },
		func() { near(&piece().Off) },
		func() { near(&piece().Len) },
		func() { near(&piece().Lines) },
		func() { piece().Page = anyPage() },
		func() { piece().Page = one(r, w.texts) },
		func() { alter(r, w.leaves, cutPieces) },
		func() { alter(r, w.leaves, morePieces) },
		func() { alter(r, w.leaves, turnedPieces) },
		func() { near(&kid().Pieces) },
		func() { near(&kid().Bytes) },
		func() { near(&kid().Lines) },
		func() { kid().Page = anyPage() },
		func() { alter(r, w.inners, higher) },
		func() { alter(r, w.inners, cutKids) },
		func() { alter(r, w.inners, turnedKids) },
		func() { alter(r, w.texts, otherText) },
		func() { alter(r, w.texts, cutText) },
		func() { alter(r, w.links, otherNext) },
		func() { alter(r, w.links, cutLink) },
		turnBit,
		func() { w.remap(max(0, len(w.freeBits())+r.Intn(3)-1)) },
		func() { w.over[anyPage()] = textSheet([]byte("over")) },
	}
}

// one answers one of a map's pages.
func one[V any](r *rand.Rand, m map[int]V) int {
	pages := slices.Sorted(maps.Keys(m))
	return pages[r.Intn(len(pages))]
}

// P12.1, P12.3: many worlds in which one or two things are changed, and sometimes what follows from them, against the model.
func TestManyChanges(t *testing.T) {
	r := rand.New(rand.NewSource(49))
	good, bad := 0, 0
	for i := range 3000 {
		s := anyShape(r)
		s.height = max(2, s.height)
		w := grown(r, 200, s).hold(lines(r, 1+r.Intn(600)))
		l := changes(r, w)
		first, second := r.Intn(len(l)), r.Intn(len(l))
		l[first]()
		if i%2 == 0 {
			w.follow(s.height)
		} else if i%3 == 0 {
			l[second]()
		}
		if super.Check(w.super) != api.OK {
			continue
		}
		if wantAsModel(t, fmt.Sprint("world ", i, ", changes ", first, " ", second), w.device(), w.super) {
			good++
		} else {
			bad++
		}
	}
	if good < 300 || bad < 1500 {
		t.Errorf("%d in order, %d not: too few to tell", good, bad)
	}
}

// follow makes the numbers right that follow from a change, unless the tree is deeper than it was: it may go round.
func (w *world) follow(height int) {
	w.count()
	if w.deep(w.super.Root, height+1) <= height {
		k := w.below(w.super.Root)
		w.super.Bytes, w.super.Lines = k.Bytes, k.Lines
	}
	w.mapFree()
}

// deep tells how many pages lie one below the other from a page down, up to most.
func (w *world) deep(page, most int) int {
	n := 0
	for _, k := range w.inners[page].kids {
		if most > 1 {
			n = max(n, w.deep(k.Page, most-1))
		}
	}
	return n + 1
}

// anyChain is a page of a chain that leads anywhere, or nowhere.
func anyChain(r *rand.Rand, size int) []byte {
	if r.Intn(2) == 0 {
		return linkSheet(0, lines(r, 1+r.Intn(room)))
	}
	return linkSheet(2+r.Intn(size-1), lines(r, room))
}

// anySheet is one of all Kinds, which leads anywhere.
func anySheet(r *rand.Rand, size int) []byte {
	page := func() int { return 2 + r.Intn(size-1) }
	switch r.Intn(7) {
	case 0:
		return anyChain(r, size)
	case 1:
		return textSheet(bytes.Repeat([]byte{10}, 1+r.Intn(full)))
	case 2, 3:
		var l []api.Piece
		for range 1 + r.Intn(20) {
			l = append(l, api.Piece{Page: page(), Len: 1, Lines: 1})
		}
		return leafSheet(l)
	case 4, 5:
		var l []api.Kid
		for range 1 + r.Intn(12) {
			n := 1 + r.Intn(30)
			l = append(l, api.Kid{Page: page(), Pieces: n, Bytes: n, Lines: n})
		}
		return innerSheet(1+r.Intn(4), l)
	}
	b := make([]byte, api.PageSize)
	r.Read(b)
	if r.Intn(2) == 0 {
		return sheet(int(b[0])%7, int(b[1])%3, int(b[2]), b[8:])
	}
	return b
}

// T6, P12.2: devices of any pages, with a superblock that leads anywhere: they end, never panic, and are as the model says.
func TestAnyPages(t *testing.T) {
	r := rand.New(rand.NewSource(50))
	for i := range 8000 {
		size := 8 + r.Intn(12)
		d, _ := device.New(size)
		for page := range size {
			d.Write(page, anySheet(r, size))
		}
		s := api.Super{Gen: 1 + r.Intn(9), Pages: size, State: anyLead(r, size), Free: anyLead(r, size)}
		if s.Root = anyLead(r, size); s.Root != 0 {
			s.Height, s.Bytes = 1+r.Intn(5), 1+r.Intn(40)
			s.Lines = s.Bytes
		}
		wantAsModel(t, fmt.Sprint("device ", i), d, s)
		place := r.Intn(2)
		d.Write(place, superSheet(s))
		got, e := audit.Open(d)
		if want, ok := walked(d.Image(), s); ok != (e == api.OK) || ok && !bytes.Equal(got.Text, want.Text) || !ok && (e != api.ErrCorrupt || !isZero(got)) {
			t.Fatalf("device %d: Open = %s, %v", i, short(got), e)
		}
	}
}

// anyLead is 0, or a page of the device.
func anyLead(r *rand.Rand, size int) int {
	if r.Intn(3) == 0 {
		return 0
	}
	return 2 + r.Intn(size-2)
}

// T6: devices of any bytes are refused.
func TestAnyBytes(t *testing.T) {
	r := rand.New(rand.NewSource(51))
	for range 300 {
		b := make([]byte, (8+r.Intn(20))*api.PageSize)
		r.Read(b)
		d, _ := device.Load(b)
		if got, e := audit.Open(d); e != api.ErrCorrupt || !isZero(got) {
			t.Fatalf("Open = %s, %v", short(got), e)
		}
		s := api.Super{Gen: 1, Pages: d.Pages(), Free: 2}
		if got, e := audit.Walk(d, s); e != api.ErrCorrupt || !isZero(got) {
			t.Fatalf("Walk = %s, %v", short(got), e)
		}
	}
}
