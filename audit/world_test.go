package audit_test

import (
	"bytes"
	"encoding/binary"
	"hash/crc32"
	"maps"
	"math/rand"
	"slices"

	"escritoire/api"
	"escritoire/audit"
	"escritoire/device"
)

// The numbers are written out here, so that they do not change with the program's own.
const (
	room = 244 // bytes of a chain's page
	full = 248 // bytes of a text page
)

// sheet lays a page's parts and sums them by the library, whatever they are.
func sheet(kind, level, count int, body []byte) []byte {
	b := []byte{byte(kind), byte(level), byte(count >> 8), byte(count)}
	b = append(b, body...)
	b = append(b, make([]byte, 252-len(b))...)
	return append(binary.BigEndian.AppendUint32(nil, crc32.ChecksumIEEE(b)), b...)
}

// laid are numbers in bytes, each of a width.
func laid(pairs ...int) []byte {
	var b []byte
	for i := 0; i < len(pairs); i += 2 {
		b = append(b, binary.BigEndian.AppendUint64(nil, uint64(pairs[i+1]))[8-pairs[i]:]...)
	}
	return b
}

func superSheet(s api.Super) []byte {
	return sheet(api.KindSuper, 0, 0, laid(8, s.Gen, 4, s.Pages, 4, s.Root, 2, s.Height, 4, s.Bytes, 4, s.Lines, 4, s.State, 4, s.Free))
}

func leafSheet(l []api.Piece) []byte {
	var b []byte
	for _, p := range l {
		b = append(b, laid(4, p.Page, 2, p.Off, 2, p.Len, 2, p.Lines, 2, 0)...)
	}
	return sheet(api.KindLeaf, 0, len(l), b)
}

func innerSheet(level int, l []api.Kid) []byte {
	var b []byte
	for _, k := range l {
		b = append(b, laid(4, k.Page, 4, k.Pieces, 8, k.Bytes, 4, k.Lines)...)
	}
	return sheet(api.KindInner, level, len(l), b)
}

func textSheet(t []byte) []byte {
	return sheet(api.KindText, 0, len(t), t)
}

func linkSheet(next int, b []byte) []byte {
	return sheet(api.KindBlob, 0, len(b), append(laid(4, next), b...))
}

// inner is an inner page, link a page of a chain.
type inner struct {
	level int
	kids  []api.Kid
}

type link struct {
	next  int
	bytes []byte
}

// world is a device ahead of its being laid, so that one thing of it can be made wrong and all else made right again.
type world struct {
	size   int
	super  api.Super
	leaves map[int][]api.Piece
	inners map[int]inner
	texts  map[int][]byte
	links  map[int]link
	over   map[int][]byte // pages' bytes that stand instead of what is told else
	spare  []int          // pages that nothing reaches
	pieces []api.Piece    // all, from the left on, as they were planted
	state  []byte
}

// bare is a world of an empty text, whose pages are handed out in no order.
func bare(r *rand.Rand, size int) *world {
	w := &world{
		size: size, super: api.Super{Gen: 1 + r.Intn(1000), Pages: size},
		leaves: map[int][]api.Piece{}, inners: map[int]inner{}, texts: map[int][]byte{}, links: map[int]link{}, over: map[int][]byte{},
	}
	for _, page := range r.Perm(size - 2) {
		w.spare = append(w.spare, page+2)
	}
	w.super.Free = w.link(make([]byte, (size+7)/8))
	w.mend()
	return w
}

func (w *world) take() int {
	page := w.spare[0]
	w.spare = w.spare[1:]
	return page
}

// link lays a chain on spare pages, from its end on.
func (w *world) link(b []byte) int {
	next := 0
	for at := (len(b) - 1) / room * room; at >= 0 && len(b) > 0; at -= room {
		page := w.take()
		w.links[page] = link{next, b[at:min(len(b), at+room)]}
		next = page
	}
	return next
}

func (w *world) hold(state []byte) *world {
	w.state = state
	w.super.State = w.link(state)
	w.mend()
	return w
}

// shape tells how great a tree is to be.
type shape struct {
	height int
	kids   func(root bool) int
	pieces func(root bool) int
	new    int // of a hundred pieces how many have a text page of their own
	long   int // how many bytes a text page has at most
}

// grown is a world of a tree.
func grown(r *rand.Rand, size int, s shape) *world {
	if s.long == 0 {
		s.long = full
	}
	w := bare(r, size)
	w.super.Height = s.height
	w.super.Root = w.plant(r, s, s.height-1, true)
	w.mend()
	return w
}

func (w *world) plant(r *rand.Rand, s shape, level int, root bool) int {
	page := w.take()
	if level == 0 {
		for range s.pieces(root) {
			p := w.piece(r, s)
			w.leaves[page] = append(w.leaves[page], p)
			w.pieces = append(w.pieces, p)
		}
		return page
	}
	in := inner{level: level}
	for range s.kids(root) {
		in.kids = append(in.kids, api.Kid{Page: w.plant(r, s, level-1, false)})
	}
	w.inners[page] = in
	return page
}

// piece is one of a text page that is there, or of a new one.
func (w *world) piece(r *rand.Rand, s shape) api.Piece {
	pages := slices.Sorted(maps.Keys(w.texts))
	if len(pages) == 0 || r.Intn(100) < s.new {
		page := w.take()
		w.texts[page] = lines(r, 1+r.Intn(s.long))
		pages = []int{page}
	}
	p := api.Piece{Page: pages[r.Intn(len(pages))]}
	t := w.texts[p.Page]
	p.Off = r.Intn(len(t))
	p.Len = 1 + r.Intn(len(t)-p.Off)
	return p
}

// lines are bytes of which many are 10.
func lines(r *rand.Rand, n int) []byte {
	b := make([]byte, n)
	for i := range b {
		b[i] = byte(r.Intn(256))
		if r.Intn(4) == 0 {
			b[i] = 10
		}
	}
	return b
}

// mend makes the pieces' Lines, the kids' numbers, those of the superblock and the free map right for what is there.
func (w *world) mend() {
	w.count()
	if w.super.Root != 0 {
		k := w.below(w.super.Root)
		w.super.Bytes, w.super.Lines = k.Bytes, k.Lines
	}
	w.mapFree()
}

// count makes all pieces' Lines right, as far as they lie on their text pages.
func (w *world) count() {
	right := func(l []api.Piece) {
		for i, p := range l {
			if t := w.texts[p.Page]; p.Off+p.Len <= len(t) {
				l[i].Lines = len(bytes.Split(t[p.Off:p.Off+p.Len], []byte{10})) - 1
			}
		}
	}
	for _, l := range w.leaves {
		right(l)
	}
	right(w.pieces)
}

// below works the kids' numbers out from below.
func (w *world) below(page int) api.Kid {
	k := api.Kid{Page: page, Pieces: len(w.leaves[page])}
	for _, p := range w.leaves[page] {
		k.Bytes += p.Len
		k.Lines += p.Lines
	}
	for i, kid := range w.inners[page].kids {
		kid = w.below(kid.Page)
		w.inners[page].kids[i] = kid
		k.Pieces += kid.Pieces
		k.Bytes += kid.Bytes
		k.Lines += kid.Lines
	}
	return k
}

// mapFree makes the free map right: set are page 0 and 1, and all that stand in the world.
func (w *world) mapFree() {
	bits := make([]byte, (w.size+7)/8)
	for _, page := range append(w.pages(), 0, 1) {
		bits[page/8] |= 1 << (page % 8)
	}
	w.setFree(resized(bits, len(w.freeBits())))
}

// setFree puts as many bytes as the free map has on the pages of its chain.
func (w *world) setFree(bits []byte) {
	for _, page := range w.freePages() {
		n := len(w.links[page].bytes)
		w.links[page] = link{w.links[page].next, bits[:n]}
		bits = bits[n:]
	}
}

// remap gives the free map another number of bytes, on other pages, and makes it right as far as they go.
func (w *world) remap(n int) {
	for _, page := range w.freePages() {
		delete(w.links, page)
		w.spare = append(w.spare, page)
	}
	w.super.Free = w.link(make([]byte, n))
	w.mapFree()
}

func resized(b []byte, n int) []byte {
	return append(slices.Clone(b), make([]byte, max(n, len(b))-len(b))...)[:n]
}

func (w *world) freeBits() []byte {
	var b []byte
	for _, page := range w.freePages() {
		b = append(b, w.links[page].bytes...)
	}
	return b
}

// freePages are those of the free map's chain, each once, even if it goes round.
func (w *world) freePages() []int {
	var l []int
	for page := w.super.Free; page != 0 && !slices.Contains(l, page); page = w.links[page].next {
		l = append(l, page)
	}
	return l
}

// pages are all that stand in the world, rising.
func (w *world) pages() []int {
	l := slices.Collect(maps.Keys(w.leaves))
	l = slices.AppendSeq(l, maps.Keys(w.inners))
	l = slices.AppendSeq(l, maps.Keys(w.texts))
	l = slices.AppendSeq(l, maps.Keys(w.links))
	slices.Sort(l)
	return l
}

// device lays the world without its superblock; what lies beyond the end is left out.
func (w *world) device() *device.Device {
	image := make([]byte, w.size*api.PageSize)
	lay := func(page int, b []byte) {
		if page < w.size {
			copy(image[page*api.PageSize:], b)
		}
	}
	for page, l := range w.leaves {
		lay(page, leafSheet(l))
	}
	for page, in := range w.inners {
		lay(page, innerSheet(in.level, in.kids))
	}
	for page, t := range w.texts {
		lay(page, textSheet(t))
	}
	for page, l := range w.links {
		lay(page, linkSheet(l.next, l.bytes))
	}
	for page, b := range w.over {
		lay(page, b)
	}
	d, _ := device.Load(image)
	return d
}

// at is the world's device with its superblock at a place.
func (w *world) at(place int) *device.Device {
	d := w.device()
	d.Write(place, superSheet(w.super))
	d.Sync()
	return d
}

// report is what the walk must tell, from what was planted.
func (w *world) report(place int) audit.Report {
	var text []byte
	for _, p := range w.pieces {
		text = append(text, w.texts[p.Page][p.Off:p.Off+p.Len]...)
	}
	return audit.Report{Super: w.super, Place: place, Pieces: w.pieces, Text: text, State: w.state, Pages: w.pages()}
}
