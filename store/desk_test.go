package store_test

import (
	"bytes"
	"encoding/binary"
	"fmt"
	"hash/crc32"
	"math"
	"math/rand"
	"slices"
	"testing"

	"escritoire/api"
	"escritoire/audit"
	"escritoire/cell"
	"escritoire/device"
	"escritoire/store"
)

// room is how many bytes stand on a chain's page: written out here, so that it does not change with the program's own.
const room = 244

// farPages lie on no device.
var farPages = []int{math.MinInt, -1 << 32, -4096, -2, -1, 4096, 4097, 1 << 31, 1 << 32, math.MaxInt}

// wrongFrames are those that pool.New refuses.
var wrongFrames = []int{math.MinInt, -8, -1, 0, 1, 7, 4097, 1 << 32, math.MaxInt}

// wrongPages are no page's bytes: the last two have the room for it, or for more, but not the length.
func wrongPages() [][]byte {
	return [][]byte{nil, {}, {1}, make([]byte, api.PageSize-1), make([]byte, api.PageSize+1), make([]byte, 2*api.PageSize), make([]byte, api.PageSize-1, api.PageSize), make([]byte, 0, 2*api.PageSize)}
}

// mixed has other bytes for each seed, in no order.
func mixed(seed, n int) []byte {
	b := make([]byte, n)
	rand.New(rand.NewSource(int64(seed))).Read(b)
	return b
}

func sheet(seed int) []byte {
	return mixed(seed, api.PageSize)
}

// junk is a device full of bytes, no two pages alike, so that each Write shows.
func junk(t *testing.T, pages int) *device.Device {
	t.Helper()
	d, e := device.Load(mixed(-pages, pages*api.PageSize))
	if e != api.OK {
		t.Fatalf("Load of %d pages: %v", pages, e)
	}
	return d
}

func formatted(t *testing.T, pages, frames int) *store.Store {
	t.Helper()
	s, e := store.Format(junk(t, pages), frames)
	if e != api.OK || s == nil {
		t.Fatalf("Format of %d pages, %d frames = %v, %v", pages, frames, s, e)
	}
	return s
}

func opened(t *testing.T, d *device.Device, frames int) *store.Store {
	t.Helper()
	s, e := store.Open(d, frames)
	if e != api.OK || s == nil {
		t.Fatalf("Open = %v, %v", s, e)
	}
	return s
}

func wantSays(t *testing.T, what string, got, want api.Errno) {
	t.Helper()
	if got != want {
		t.Fatalf("%s: %v, want %v", what, got, want)
	}
}

func wantAlloc(t *testing.T, what string, s *store.Store, want ...int) {
	t.Helper()
	for _, page := range want {
		if got, e := s.Alloc(); got != page || e != api.OK {
			t.Fatalf("%s: Alloc = %d, %v, want %d", what, got, e, page)
		}
	}
}

func wantNoAlloc(t *testing.T, what string, s *store.Store) {
	t.Helper()
	if got, e := s.Alloc(); got != 0 || e != api.ErrFull {
		t.Fatalf("%s: Alloc = %d, %v, want 0, full", what, got, e)
	}
}

func wantRead(t *testing.T, what string, s *store.Store, page int, want []byte) {
	t.Helper()
	if got, e := s.Read(page); e != api.OK || !bytes.Equal(got, want) {
		t.Fatalf("%s: Read(%d) = %v, %v, want %v", what, page, got, e, want)
	}
}

func wantBytes(t *testing.T, what string, s *store.Store, page int, want []byte) {
	t.Helper()
	if got, e := s.Bytes(page); e != api.OK || !bytes.Equal(got, want) {
		t.Fatalf("%s: Bytes(%d) = %d bytes, %v, want %d", what, page, len(got), e, len(want))
	}
}

func wantNoBytes(t *testing.T, what string, s *store.Store, page int, want api.Errno) {
	t.Helper()
	if got, e := s.Bytes(page); e != want || len(got) != 0 {
		t.Fatalf("%s: Bytes(%d) = %v, %v, want none, %v", what, page, got, e, want)
	}
}

func wantFree(t *testing.T, what string, s *store.Store, want int) {
	t.Helper()
	if got := s.Free(); got != want {
		t.Fatalf("%s: %d free, want %d", what, got, want)
	}
}

// wantOwn asks of all pages, and of some that are none, which are own.
func wantOwn(t *testing.T, what string, s *store.Store, want ...int) {
	t.Helper()
	var got []int
	for page := -2; page < s.Device().Pages()+2; page++ {
		if s.Own(page) {
			got = append(got, page)
		}
	}
	if !slices.Equal(got, want) {
		t.Fatalf("%s: own are %v, want %v", what, got, want)
	}
}

func wantBack(t *testing.T, what string, s *store.Store, want bool) {
	t.Helper()
	if got := s.Back(); got != want {
		t.Fatalf("%s: Back = %v, want %v", what, got, want)
	}
}

func wantSuper(t *testing.T, what string, s *store.Store, want api.Super) {
	t.Helper()
	if got := s.Super(); got != want {
		t.Fatalf("%s: Super = %+v, want %+v", what, got, want)
	}
}

// write takes the least free page and writes it.
func write(t *testing.T, s *store.Store, b []byte) int {
	t.Helper()
	page, e := s.Alloc()
	wantSays(t, "Alloc", e, api.OK)
	wantSays(t, fmt.Sprintf("Write(%d)", page), s.Write(page, b), api.OK)
	return page
}

// commit is one with an empty text that must be done.
func commit(t *testing.T, s *store.Store, state []byte) {
	t.Helper()
	wantSays(t, "Commit", s.Commit(api.Super{}, state), api.OK)
}

// pageOf looks without an op, so that it may be asked of a dead device too.
func pageOf(d *device.Device, page int) []byte {
	return d.Image()[page*api.PageSize:][:api.PageSize]
}

// lasting are the bytes that are found if nothing is left of what was not synced.
func lasting(d *device.Device) []byte {
	return d.Crash(make([]byte, 4*d.Ops()+4)).Image()
}

// sealed lays a page by the library's sum, and not by package page.
func sealed(kind, level, count int, body []byte) []byte {
	b := append([]byte{byte(kind), byte(level), byte(count >> 8), byte(count)}, body...)
	b = append(b, make([]byte, api.PageSize-4-len(b))...)
	return append(binary.BigEndian.AppendUint32(nil, crc32.ChecksumIEEE(b)), b...)
}

// block is a superblock's page.
func block(s api.Super) []byte {
	b := binary.BigEndian.AppendUint64(nil, uint64(s.Gen))
	b = binary.BigEndian.AppendUint32(b, uint32(s.Pages))
	b = binary.BigEndian.AppendUint32(b, uint32(s.Root))
	b = binary.BigEndian.AppendUint16(b, uint16(s.Height))
	for _, x := range []int{s.Bytes, s.Lines, s.State, s.Free} {
		b = binary.BigEndian.AppendUint32(b, uint32(x))
	}
	return sealed(api.KindSuper, 0, 0, b)
}

// link is a page of a chain.
func link(next int, b []byte) []byte {
	return sealed(api.KindBlob, 0, len(b), append(binary.BigEndian.AppendUint32(nil, uint32(next)), b...))
}

// need is how many pages of a chain n bytes have.
func need(n int) int {
	return len(slices.Collect(slices.Chunk(make([]byte, n), room)))
}

// mapNeed is how many pages the chain of the free map has.
func mapNeed(pages int) int {
	return need((pages + 7) / 8)
}

// chainOf reads a chain that is in order from a device's bytes: what stands on it, and on which pages.
func chainOf(image []byte, page int) (b []byte, pages []int) {
	for page != 0 {
		p := image[page*api.PageSize:][:api.PageSize]
		b = append(b, p[12:12+int(binary.BigEndian.Uint16(p[6:]))]...)
		pages = append(pages, page)
		page = int(binary.BigEndian.Uint32(p[8:]))
	}
	return b, pages
}

// bitsOf are those of a free map.
func bitsOf(pages int, used []int) []byte {
	b := make([]byte, (pages+7)/8)
	for _, page := range used {
		b[page/8] |= 1 << (page % 8)
	}
	return b
}

// upTo is from, from+1, .. below to.
func upTo(from, to int) []int {
	var l []int
	for i := from; i < to; i++ {
		l = append(l, i)
	}
	return l
}

// trace tells what a call does on a device, op by op: it lets the device die at each of them in turn. begin makes the same device each time, and answers the call.
func trace(t *testing.T, begin func() (*device.Device, func())) []string {
	t.Helper()
	var told []string
	d, do := begin()
	now, lasts, ops := d.Image(), lasting(d), d.Ops()
	for k := 0; ; k++ {
		d, do = begin()
		d.Fuse(k)
		do()
		if k > 0 && !bytes.Equal(lasting(d), lasts) {
			told[k-1] += "sync"
			lasts = lasting(d)
		}
		if !d.Dead() {
			if d.Ops() != ops+k {
				t.Fatalf("%d ops, %d of them told", d.Ops()-ops, k)
			}
			return told
		}
		op, image := "", d.Image()
		for page := range d.Pages() {
			at := page * api.PageSize
			if !bytes.Equal(image[at:at+api.PageSize], now[at:at+api.PageSize]) {
				op += fmt.Sprint("write ", page)
			}
		}
		told = append(told, op)
		now = image
	}
}

// desk keeps a text on a store by hand: text pages and one leaf.
type desk struct {
	s    *store.Store
	n    api.Super // its tree
	on   []int     // the pages of it
	text []byte
}

// deskOf goes on with the text that a store has.
func deskOf(t *testing.T, s *store.Store) *desk {
	t.Helper()
	r, e := audit.Open(s.Device().Crash(nil))
	wantSays(t, "audit.Open", e, api.OK)
	k := &desk{s: s, n: s.Super(), text: r.Text}
	_, state := chainOf(s.Device().Image(), r.Super.State)
	_, free := chainOf(s.Device().Image(), r.Super.Free)
	for _, page := range r.Pages {
		if !slices.Contains(state, page) && !slices.Contains(free, page) {
			k.on = append(k.on, page)
		}
	}
	return k
}

// set gives the text of before up, and puts another one on new pages, of which each but the leaf has at most 20 bytes, so that a short text has several.
func (k *desk) set(text []byte) api.Errno {
	for _, page := range k.on {
		if e := k.s.Drop(page); e != api.OK {
			return e
		}
	}
	k.n, k.on, k.text = api.Super{}, nil, text
	var l []api.Piece
	for part := range slices.Chunk(text, 20) {
		b, _ := cell.Bytes(part)
		page, e := k.put(b)
		if e != api.OK {
			return e
		}
		l = append(l, api.Piece{Page: page, Len: len(part), Lines: bytes.Count(part, []byte{10})})
	}
	if len(l) == 0 {
		return api.OK
	}
	b, _ := cell.Leaf(l)
	root, e := k.put(b)
	k.n = api.Super{Root: root, Height: 1, Bytes: len(text), Lines: bytes.Count(text, []byte{10})}
	return e
}

func (k *desk) put(b []byte) (int, api.Errno) {
	page, e := k.s.Alloc()
	if e != api.OK {
		return 0, e
	}
	k.on = append(k.on, page)
	return page, k.s.Write(page, b)
}

// version is what a commit keeps.
type version struct {
	text, state string
}

// found is what is opened on a device that crashed.
func found(t *testing.T, what string, d *device.Device) version {
	t.Helper()
	r, e := audit.Open(d)
	if e != api.OK {
		t.Fatalf("%s: audit.Open: %v", what, e)
	}
	return version{string(r.Text), string(r.State)}
}

// wantWhole: T3, P13.6: behind a commit that was done what is reached and what is free are all pages but the superblocks', and the device has what the store tells.
func wantWhole(t *testing.T, what string, s *store.Store, want version) {
	t.Helper()
	r, e := audit.Open(s.Device().Crash(nil))
	if e != api.OK {
		t.Fatalf("%s: audit.Open: %v", what, e)
	}
	if r.Super != s.Super() {
		t.Fatalf("%s: the device has %+v, the store %+v", what, r.Super, s.Super())
	}
	if got := (version{string(r.Text), string(r.State)}); got != want {
		t.Fatalf("%s: %q, want %q", what, got, want)
	}
	wantFree(t, what, s, r.Super.Pages-2-len(r.Pages))
	wantOwn(t, what, s)
}
