package tree_test

import (
	"bytes"
	"encoding/binary"
	"fmt"
	"hash/crc32"
	"math"
	"math/rand"
	"slices"
	"testing"

	"escritoire/api"
	"escritoire/audit"
	"escritoire/cell"
	"escritoire/device"
	"escritoire/store"
	"escritoire/tree"
)

// far are places, and other numbers, that no tree has.
var far = []int{math.MinInt, -1 << 32, -2, -1, 1 << 20, 1 << 31, 1 << 32, math.MaxInt}

func wantSays(t *testing.T, what string, got, want api.Errno) {
	t.Helper()
	if got != want {
		t.Fatalf("%s: %v, want %v", what, got, want)
	}
}

func formatted(t *testing.T, pages, frames int) *store.Store {
	t.Helper()
	d, e := device.New(pages)
	wantSays(t, "device.New", e, api.OK)
	s, e := store.Format(d, frames)
	wantSays(t, "store.Format", e, api.OK)
	return s
}

// write takes a page and writes it.
func write(t *testing.T, s *store.Store, b []byte) int {
	t.Helper()
	page, e := s.Alloc()
	wantSays(t, "Alloc", e, api.OK)
	wantSays(t, fmt.Sprintf("Write(%d)", page), s.Write(page, b), api.OK)
	return page
}

// desk is a store with text pages, and a tree on it beside the plain list that it must be.
type desk struct {
	t     *testing.T
	s     *store.Store
	texts map[int][]byte // by pages
	pages []int          // those, rising
	r     *rand.Rand
	now   *tree.Tree
	list  []api.Piece
}

func deskOf(t *testing.T, pages, frames, texts int) *desk {
	t.Helper()
	k := &desk{t: t, s: formatted(t, pages, frames), texts: map[int][]byte{}, r: rand.New(rand.NewSource(int64(pages + texts)))}
	for range texts {
		b := make([]byte, 248)
		for i := range b {
			b[i] = byte(k.r.Intn(256))
			if k.r.Intn(4) == 0 {
				b[i] = 10
			}
		}
		sealed, e := cell.Bytes(b)
		wantSays(t, "cell.Bytes", e, api.OK)
		page := write(t, k.s, sealed)
		k.texts[page] = b
		k.pages = append(k.pages, page)
	}
	now, e := tree.New(k.s, k.s.Super())
	wantSays(t, "New of an empty tree", e, api.OK)
	k.now = now
	return k
}

// piece is a part of one of the text pages, of at most so many bytes.
func (k *desk) piece(most int) api.Piece {
	p := api.Piece{Page: k.pages[k.r.Intn(len(k.pages))], Len: 1 + k.r.Intn(most)}
	p.Off = k.r.Intn(248 - p.Len + 1)
	p.Lines = bytes.Count(k.texts[p.Page][p.Off:p.Off+p.Len], []byte{10})
	return p
}

func (k *desk) some(n int) []api.Piece {
	var l []api.Piece
	for range n {
		l = append(l, k.piece(9))
	}
	return l
}

// place is where the i-th piece of a list begins, or where the list ends.
func place(l []api.Piece, i int) int {
	n := 0
	for _, p := range l[:i] {
		n += p.Len
	}
	return n
}

func lines(l []api.Piece) int {
	n := 0
	for _, p := range l {
		n += p.Lines
	}
	return n
}

// spliced is what a list becomes if the pieces i to j are replaced.
func spliced(l []api.Piece, i, j int, put []api.Piece) []api.Piece {
	return slices.Concat(l[:i], put, l[j:])
}

// splice replaces the pieces i to j of the tree and the list, and asks whether the tree is what the list is.
func (k *desk) splice(what string, i, j int, put []api.Piece) {
	k.t.Helper()
	next, e := k.now.Splice(place(k.list, i), place(k.list, j), put)
	wantSays(k.t, what, e, api.OK)
	k.now, k.list = next, spliced(k.list, i, j, put)
	k.wantNow(what)
}

// grown is a desk with a tree of so many pieces, all put in by one call.
func grown(t *testing.T, pages, frames, n int) *desk {
	t.Helper()
	k := deskOf(t, pages, frames, 3)
	k.splice(fmt.Sprint(n, " pieces"), 0, 0, k.some(n))
	return k
}

// wantNow: the tree tells what the list does, and has the form of chapter 12; it answers the tree's pages.
func (k *desk) wantNow(what string) []int {
	k.t.Helper()
	return wantTree(k.t, what, k.s, k.now, k.list)
}

// wantPieces tells the first place at which two lists differ.
func wantPieces(t *testing.T, what string, got, want []api.Piece) {
	t.Helper()
	for i := range min(len(got), len(want)) {
		if got[i] != want[i] {
			t.Fatalf("%s: piece %d is %v, want %v", what, i, got[i], want[i])
		}
	}
	if len(got) != len(want) {
		t.Fatalf("%s: %d pieces, want %d", what, len(got), len(want))
	}
}

// wantTree asks all that takes one call, and looks at the tree's pages by itself.
func wantTree(t *testing.T, what string, s *store.Store, x *tree.Tree, l []api.Piece) []int {
	t.Helper()
	if x == nil {
		t.Fatalf("%s: no tree", what)
	}
	if x.Bytes() != place(l, len(l)) || x.Lines() != lines(l) || x.Count() != len(l) {
		t.Fatalf("%s: %d bytes, %d lines, %d pieces, want %d, %d, %d", what, x.Bytes(), x.Lines(), x.Count(), place(l, len(l)), lines(l), len(l))
	}
	got, e := x.All()
	wantSays(t, what+": All", e, api.OK)
	wantPieces(t, what+": All", got, l)
	root, height := x.Root()
	f := &form{t: t, what: what, s: s}
	if (root == 0) != (len(l) == 0) || (height == 0) != (len(l) == 0) {
		t.Fatalf("%s: Root = %d, %d of %d pieces", what, root, height, len(l))
	}
	if height > 0 {
		f.look(root, height-1, true)
	}
	wantPieces(t, what+": on the pages", f.pieces, l)
	slices.Sort(f.pages)
	if n := len(f.pages); len(slices.Compact(slices.Clone(f.pages))) != n {
		t.Fatalf("%s: a page has two places: %v", what, f.pages)
	}
	if height > highest(len(l)) {
		t.Fatalf("%s: a height of %d with %d pieces", what, height, len(l))
	}
	return f.pages
}

// highest is P14.4's height, with its own words.
func highest(count int) int {
	h := 0
	for n := 20; n <= count; n *= 6 {
		h++
	}
	return 2 + h
}

// form looks at a tree's pages byte by byte; the numbers are written out here, so that they do not change with the program's own.
type form struct {
	t      *testing.T
	what   string
	s      *store.Store
	pages  []int
	pieces []api.Piece
}

func number(b []byte, at, n int) int {
	x := 0
	for _, c := range b[at : at+n] {
		x = x<<8 | int(c)
	}
	return x
}

// look answers what the page counts for.
func (f *form) look(page, level int, root bool) api.Kid {
	f.t.Helper()
	b, e := f.s.Read(page)
	if e != api.OK || binary.BigEndian.Uint32(b) != crc32.ChecksumIEEE(b[4:]) {
		f.t.Fatalf("%s: page %d: %v, %v", f.what, page, b, e)
	}
	f.pages = append(f.pages, page)
	kind, most, least, size := 2, 12, 6, 20
	if level == 0 {
		kind, most, least, size = 3, 20, 10, 12
	}
	if root {
		least = 2 - kind/3
	}
	count := number(b, 6, 2)
	if int(b[4]) != kind || int(b[5]) != level || count < least || count > most {
		f.t.Fatalf("%s: page %d has kind %d, level %d, %d items, want kind %d, level %d, %d to %d items", f.what, page, b[4], b[5], count, kind, level, least, most)
	}
	all := api.Kid{Page: page}
	for at := 8; at < 8+count*size; at += size {
		k := api.Kid{Pieces: 1, Bytes: number(b, at+6, 2), Lines: number(b, at+8, 2)}
		if level == 0 {
			f.pieces = append(f.pieces, api.Piece{Page: number(b, at, 4), Off: number(b, at+4, 2), Len: k.Bytes, Lines: k.Lines})
		} else {
			k = api.Kid{Page: number(b, at, 4), Pieces: number(b, at+4, 4), Bytes: number(b, at+8, 8), Lines: number(b, at+16, 4)}
			if below := f.look(k.Page, level-1, false); below != k {
				f.t.Fatalf("%s: page %d counts for %+v, above it stands %+v", f.what, k.Page, below, k)
			}
		}
		all.Pieces, all.Bytes, all.Lines = all.Pieces+k.Pieces, all.Bytes+k.Bytes, all.Lines+k.Lines
	}
	return all
}

// wantFind, wantRange, wantLine: one answer each, held against a walk through the plain list.
func (k *desk) wantFind(at int) {
	k.t.Helper()
	want, begin, says := api.Piece{}, 0, api.ErrNone
	for i, p := range k.list {
		if b := place(k.list, i); b <= at && at < b+p.Len {
			want, begin, says = p, b, api.OK
		}
	}
	if got, b, e := k.now.Find(at); got != want || b != begin || e != says {
		k.t.Fatalf("%d pieces: Find(%d) = %v, %d, %v, want %v, %d, %v", len(k.list), at, got, b, e, want, begin, says)
	}
}

func (k *desk) wantRange(from, to int) {
	k.t.Helper()
	var want []api.Piece
	first, begin := 0, 0
	for _, p := range k.list {
		for at := begin; at < begin+p.Len; at++ {
			if from <= at && at < to {
				if len(want) == 0 {
					first = begin
				}
				want = append(want, p)
				break
			}
		}
		begin += p.Len
	}
	if got, b, e := k.now.Range(from, to); !slices.Equal(got, want) || b != first || e != api.OK {
		k.t.Fatalf("%d pieces: Range(%d, %d) = %v, %d, %v, want %v, %d", len(k.list), from, to, got, b, e, want, first)
	}
}

func (k *desk) wantLine(n int) {
	k.t.Helper()
	want, begin, ahead, says := api.Piece{}, 0, 0, api.ErrNone
	for i, p := range k.list {
		if l := lines(k.list[:i]); l <= n && n < l+p.Lines {
			want, begin, ahead, says = p, place(k.list, i), l, api.OK
		}
	}
	if got, b, l, e := k.now.Line(n); got != want || b != begin || l != ahead || e != says {
		k.t.Fatalf("%d pieces: Line(%d) = %v, %d, %d, %v, want %v, %d, %d, %v", len(k.list), n, got, b, l, e, want, begin, ahead, says)
	}
}

// super is that of the tree as it is now.
func (k *desk) super() api.Super {
	n := api.Super{Gen: 1, Pages: k.s.Device().Pages(), Bytes: k.now.Bytes(), Lines: k.now.Lines()}
	n.Root, n.Height = k.now.Root()
	return n
}

// commit commits the tree, and lets audit walk through what the device has. Text pages that no piece reaches would be lost room, so that they must all be in the list.
func (k *desk) commit(what string) {
	k.t.Helper()
	wantSays(k.t, what, k.s.Commit(k.super(), nil), api.OK)
	r, e := audit.Walk(k.s.Device(), k.s.Super())
	wantSays(k.t, what+": audit.Walk", e, api.OK)
	wantPieces(k.t, what+": audit.Walk", r.Pieces, k.list)
	if free := r.Super.Pages - 2 - len(r.Pages); k.s.Free() != free {
		k.t.Fatalf("%s: %d pages are free, want %d", what, k.s.Free(), free)
	}
}

// anchor puts a piece of each text page at the end, so that all of them are reached.
func (k *desk) anchor() {
	k.t.Helper()
	var l []api.Piece
	for _, page := range k.pages {
		l = append(l, api.Piece{Page: page, Len: 248, Lines: bytes.Count(k.texts[page], []byte{10})})
	}
	k.splice("the text pages", len(k.list), len(k.list), l)
}

// own are the pages that are own.
func own(s *store.Store) []int {
	var l []int
	for page := range s.Device().Pages() {
		if s.Own(page) {
			l = append(l, page)
		}
	}
	return l
}

// without are those of a that are not in b.
func without(a, b []int) []int {
	return slices.DeleteFunc(slices.Clone(a), func(x int) bool { return slices.Contains(b, x) })
}

// sorted are the pages of all lists, rising.
func sorted(l ...[]int) []int {
	all := slices.Concat(l...)
	slices.Sort(all)
	return all
}
