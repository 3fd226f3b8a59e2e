package store_test

import (
	"bytes"
	"fmt"
	"slices"
	"testing"

	"escritoire/api"
	"escritoire/audit"
	"escritoire/device"
	"escritoire/store"
)

func TestExamples(t *testing.T) {
	s := formatted(t, 16, 8)
	wantSuper(t, "Format of 16 pages", s, api.Super{Gen: 1, Pages: 16, Free: 2})
	wantSays(t, "Write(2)", s.Write(2, sheet(1)), api.ErrState)
	wantAlloc(t, "behind it", s, 3)
	wantSays(t, "Drop(3)", s.Drop(3), api.OK)
	wantAlloc(t, "behind that", s, 3)
}

// sizes of devices: the least, the greatest, and those at which the free map needs another byte or another page.
var sizes = []int{8, 9, 10, 16, 17, 64, 1951, 1952, 1953, 3904, 3905, 4095, 4096}

// P13.1: what Format leaves on a device and in the store.
func TestFormat(t *testing.T) {
	for _, pages := range sizes {
		what := fmt.Sprint(pages, " pages")
		d := junk(t, pages)
		before := d.Image()
		s, e := store.Format(d, 8)
		wantSays(t, what, e, api.OK)
		links := mapNeed(pages)
		super := api.Super{Gen: 1, Pages: pages, Free: 2}
		wantSuper(t, what, s, super)
		wantFree(t, what, s, pages-2-links)
		wantOwn(t, what, s)
		wantBack(t, what, s, false)
		if s.Resident() != 0 || s.Pinned() != 0 || s.Device() != d || d.Ops() != links+3 {
			t.Errorf("%s: resident %d, pinned %d, its device %v, %d ops", what, s.Resident(), s.Pinned(), s.Device() == d, d.Ops())
		}
		image := d.Image()
		if !bytes.Equal(lasting(d), image) {
			t.Errorf("%s: it was not synced", what)
		}
		if !bytes.Equal(pageOf(d, 0), block(super)) || !bytes.Equal(pageOf(d, 1), make([]byte, api.PageSize)) {
			t.Errorf("%s: the superblocks' pages are %v, %v", what, pageOf(d, 0), pageOf(d, 1))
		}
		bits, on := chainOf(image, 2)
		if !slices.Equal(on, upTo(2, 2+links)) || !bytes.Equal(bits, bitsOf(pages, upTo(0, 2+links))) {
			t.Errorf("%s: the free map is %v on %v", what, bits, on)
		}
		rest := (2 + links) * api.PageSize
		if !bytes.Equal(image[rest:], before[rest:]) {
			t.Errorf("%s: other pages were written", what)
		}
		wantWhole(t, what, s, version{})
	}
}

// P13.1: the chain, page 1, page 0, and then Sync.
func TestFormatsOrder(t *testing.T) {
	for _, pages := range []int{8, 1953, 4096} {
		got := trace(t, func() (*device.Device, func()) {
			d := junk(t, pages)
			return d, func() { store.Format(d, 8) }
		})
		var want []string
		for i := range mapNeed(pages) {
			want = append(want, fmt.Sprint("write ", 2+i))
		}
		want = append(want, "write 1", "write 0", "sync")
		if !slices.Equal(got, want) {
			t.Errorf("%d pages: %q, want %q", pages, got, want)
		}
	}
}

// P13.1: ErrArg, and the device is not touched.
func TestNoDeviceWrongFrames(t *testing.T) {
	calls := map[string]func(*device.Device, int) (*store.Store, api.Errno){"Format": store.Format, "Open": store.Open}
	for name, call := range calls {
		for _, frames := range append([]int{8, 4096}, wrongFrames...) {
			if s, e := call(nil, frames); s != nil || e != api.ErrArg {
				t.Errorf("%s of no device, %d frames = %v, %v", name, frames, s, e)
			}
		}
		d := formatted(t, 16, 8).Device()
		for _, frames := range wrongFrames {
			before, ops := d.Image(), d.Ops()
			if s, e := call(d, frames); s != nil || e != api.ErrArg {
				t.Errorf("%s of %d frames = %v, %v", name, frames, s, e)
			}
			if d.Ops() != ops || !bytes.Equal(d.Image(), before) {
				t.Errorf("%s of %d frames touched the device", name, frames)
			}
		}
		for _, frames := range []int{8, 9, 4096} {
			if s, e := call(d.Clone(), frames); s == nil || e != api.OK {
				t.Errorf("%s of %d frames = %v, %v", name, frames, s, e)
			}
		}
	}
}

// A device that no call made can't be written, and can't be read.
func TestDeviceOfNoCall(t *testing.T) {
	if s, e := store.Format(&device.Device{}, 8); s != nil || e != api.ErrState {
		t.Errorf("Format = %v, %v", s, e)
	}
	if s, e := store.Open(&device.Device{}, 8); s != nil || e != api.ErrIO {
		t.Errorf("Open = %v, %v", s, e)
	}
}

// P13.1: the device's errors end Format where they come, be it done or not.
func TestFormatFails(t *testing.T) {
	for _, pages := range []int{8, 4096} {
		all := mapNeed(pages) + 3
		good := junk(t, pages)
		store.Format(good, 8)
		for k := range all {
			for _, outcome := range []byte{1, 2, 4, 254} {
				d := junk(t, pages)
				d.Outcomes(append(make([]byte, k), outcome))
				s, e := store.Format(d, 8)
				if s != nil || e != api.ErrIO || d.Ops() != k+1 {
					t.Fatalf("op %d is %d: Format = %v, %v behind %d ops", k, outcome, s, e, d.Ops())
				}
				if bytes.Equal(lasting(d), good.Image()) != (k == all-1 && outcome%3 == 2) {
					t.Errorf("op %d is %d: what lasts is wrong", k, outcome)
				}
			}
			d := junk(t, pages)
			d.Fuse(k)
			if s, e := store.Format(d, 8); s != nil || e != api.ErrIO || !d.Dead() {
				t.Fatalf("it dies at op %d: Format = %v, %v", k, s, e)
			}
		}
		d := junk(t, pages)
		d.Outcomes(append(make([]byte, all), 1))
		if s, e := store.Format(d, 8); s == nil || e != api.OK {
			t.Errorf("no op of it fails: Format = %v, %v", s, e)
		}
	}
}

// P13.1: what stood on the device ahead of Format is gone, whatever its Gen and its place.
func TestFormatAgain(t *testing.T) {
	for commits := range 4 {
		s := formatted(t, 16, 8)
		for i := range commits {
			commit(t, s, mixed(i, 300))
		}
		again, e := store.Format(s.Device(), 8)
		wantSays(t, "Format", e, api.OK)
		wantSuper(t, "Format", again, api.Super{Gen: 1, Pages: 16, Free: 2})
		wantWhole(t, "Format", again, version{})
	}
}

// P13.1: a store that is opened is as the one that was left behind a commit.
func TestOpen(t *testing.T) {
	for _, pages := range []int{8, 9, 64, 1953, 4096} {
		old := formatted(t, pages, 8)
		k := deskOf(t, old)
		for i := range 6 {
			what := fmt.Sprintf("%d pages, %d commits", pages, i)
			d := old.Device().Crash(nil)
			before := d.Image()
			s := opened(t, d, 8)
			wantSuper(t, what, s, old.Super())
			wantFree(t, what, s, old.Free())
			wantOwn(t, what, s)
			wantBack(t, what, s, false)
			if s.Resident() != 0 || s.Pinned() != 0 || s.Device() != d {
				t.Errorf("%s: resident %d, pinned %d, its device %v", what, s.Resident(), s.Pinned(), s.Device() == d)
			}
			if !bytes.Equal(d.Image(), before) || !bytes.Equal(lasting(d), before) {
				t.Errorf("%s: Open wrote", what)
			}
			// Open asks the device for what audit.Open reads, and for nothing else.
			other := old.Device().Crash(nil)
			audit.Open(other)
			if d.Ops() != other.Ops() {
				t.Errorf("%s: %d ops, those of audit.Open are %d", what, d.Ops(), other.Ops())
			}
			wantSamePages(t, what, s, old)
			old = s
			k = deskOf(t, old)
			text, state := mixed(i, i%3*21), mixed(-i, i*11)
			if i == 5 {
				text, state = nil, nil
			}
			if pages < 16 {
				text = nil
			}
			wantSays(t, what, k.set(text), api.OK)
			wantSays(t, what, old.Commit(k.n, state), api.OK)
			wantWhole(t, what, old, version{string(text), string(state)})
			sure := i % 2 * api.PageSize
			if !bytes.Equal(pageOf(d, i%2), before[sure:sure+api.PageSize]) || !bytes.Equal(pageOf(d, 1-i%2), block(s.Super())) {
				t.Errorf("%s: the next superblock does not stand where the one that was found does not", what)
			}
		}
	}
}

// wantSamePages: what two stores take when all is taken, and give back.
func wantSamePages(t *testing.T, what string, a, b *store.Store) {
	t.Helper()
	all := func(s *store.Store) []int {
		s.Mark()
		var l []int
		for page, e := s.Alloc(); e == api.OK; page, e = s.Alloc() {
			l = append(l, page)
		}
		s.Back()
		return l
	}
	if x, y := all(a), all(b); !slices.Equal(x, y) {
		t.Fatalf("%s: free are %v and %v", what, x, y)
	}
}

// P13.1: audit.Open's errors.
func TestOpenErrors(t *testing.T) {
	fresh, _ := device.New(8)
	for name, d := range map[string]*device.Device{"a new device": fresh, "any bytes": junk(t, 16)} {
		if s, e := store.Open(d, 8); s != nil || e != api.ErrCorrupt {
			t.Errorf("Open of %s = %v, %v", name, s, e)
		}
	}
	s := formatted(t, 16, 8)
	k := deskOf(t, s)
	wantSays(t, "set", k.set([]byte("some text\non two pages of it")), api.OK)
	wantSays(t, "Commit", s.Commit(k.n, mixed(1, 300)), api.OK)
	image := s.Device().Image()
	reads := 2 + 3 + 2 + 1
	for at := range reads + 1 {
		d, _ := device.Load(image)
		d.Outcomes(append(make([]byte, at), 1))
		o, e := store.Open(d, 8)
		if at < reads && (o != nil || e != api.ErrIO) || at == reads && (o == nil || e != api.OK) {
			t.Errorf("read %d fails: Open = %v, %v", at, o, e)
		}
		d, _ = device.Load(image)
		d.Fuse(at)
		o, e = store.Open(d, 8)
		if at < reads && (o != nil || e != api.ErrIO) || at == reads && (o == nil || e != api.OK) {
			t.Errorf("it dies at read %d: Open = %v, %v", at, o, e)
		}
	}
	r, _ := audit.Open(s.Device().Crash(nil))
	for _, page := range append([]int{r.Place}, r.Pages...) {
		broken := bytes.Clone(image)
		broken[page*api.PageSize+9] ^= 1
		d, _ := device.Load(broken)
		_, want := audit.Open(d)
		o, e := store.Open(d, 8)
		if e != want || (o == nil) != (e != api.OK) || page != r.Place && e != api.ErrCorrupt {
			t.Errorf("page %d is broken: Open = %v, %v, want %v", page, o, e, want)
		}
	}
}

// P13.2: Alloc tells the least free page, up to the last one.
func TestAlloc(t *testing.T) {
	for _, pages := range []int{8, 9, 64, 4096} {
		s := formatted(t, pages, 8)
		first := 2 + mapNeed(pages)
		wantAlloc(t, "all", s, upTo(first, pages)...)
		wantNoAlloc(t, "none is left", s)
		wantNoAlloc(t, "none is left", s)
		wantFree(t, "none is left", s, 0)
		wantOwn(t, "none is left", s, upTo(first, pages)...)
		for _, page := range []int{pages - 1, first, pages - 2} {
			wantSays(t, "Drop", s.Drop(page), api.OK)
		}
		wantFree(t, "three dropped", s, 3)
		wantAlloc(t, "three dropped", s, first, pages-2, pages-1)
		wantNoAlloc(t, "all taken again", s)
	}
}

// P13.2: what a commit gives up is free when it is done, and not before.
func TestAllocOfPending(t *testing.T) {
	s := formatted(t, 9, 8)
	wantAlloc(t, "first", s, 3, 4)
	commit(t, s, nil)
	// The free map went from page 2 to page 5.
	wantSuper(t, "Commit", s, api.Super{Gen: 2, Pages: 9, Free: 5})
	wantFree(t, "Commit", s, 4)
	wantSays(t, "Drop(3)", s.Drop(3), api.OK)
	wantFree(t, "Drop of a used one", s, 4)
	wantAlloc(t, "a pending one is not free", s, 2, 6, 7, 8)
	wantNoAlloc(t, "a pending one is not free", s)
	wantSays(t, "Drop(2)", s.Drop(2), api.OK)
	commit(t, s, nil)
	wantSuper(t, "Commit", s, api.Super{Gen: 3, Pages: 9, Free: 2})
	wantFree(t, "Commit", s, 2)
	wantAlloc(t, "the pending one and the old chain are free", s, 3, 5)
	wantNoAlloc(t, "all others are used", s)
}

// P13.2: Read tells any page that there is, the superblocks' too.
func TestRead(t *testing.T) {
	s := formatted(t, 16, 8)
	d := s.Device()
	for page := range 16 {
		wantRead(t, "as on the device", s, page, pageOf(d, page))
	}
	a, b := write(t, s, sheet(1)), write(t, s, sheet(2))
	wantRead(t, "written", s, a, sheet(1))
	wantRead(t, "written", s, b, sheet(2))
	wantSays(t, "Write", s.Write(a, sheet(3)), api.OK)
	wantRead(t, "written again", s, a, sheet(3))
	wantSays(t, "Evict", s.Evict(16), api.OK)
	wantRead(t, "evicted", s, a, sheet(3))
	wantRead(t, "evicted", s, b, sheet(2))
	for _, page := range append([]int{16, 17}, farPages...) {
		if got, e := s.Read(page); len(got) != 0 || e != api.ErrArg {
			t.Errorf("Read(%d) = %v, %v", page, got, e)
		}
	}
	if s.Pinned() != 0 {
		t.Errorf("%d pinned", s.Pinned())
	}
}

// P13.2: a superblock's page is told as it is on the device, though Commit writes it past the frames.
func TestReadOfSuperblocks(t *testing.T) {
	s := formatted(t, 16, 8)
	d := s.Device()
	look := func(what string) {
		t.Helper()
		wantRead(t, what, s, 0, pageOf(d, 0))
		wantRead(t, what, s, 1, pageOf(d, 1))
	}
	look("Format")
	for i := range 4 {
		commit(t, s, []byte{byte(i)})
		look(fmt.Sprint("commit ", i))
		for back := range 2 {
			for _, outcome := range []byte{1, 2} {
				// Of the two pages of chains, Sync, the superblock and Sync one of the last two fails.
				d.Outcomes(append(make([]byte, 4-back), outcome))
				wantSays(t, "Commit", s.Commit(api.Super{}, []byte("fails")), api.ErrIO)
				look(fmt.Sprint("commit ", i, ", then one that failed"))
			}
		}
	}
}

// P13.2: the pool's errors: a read that fails, and a frame that can't be taken, as the page in it can't be written.
func TestReadFails(t *testing.T) {
	s := formatted(t, 32, 8)
	d := s.Device()
	d.Outcomes([]byte{1})
	if got, e := s.Read(2); len(got) != 0 || e != api.ErrIO {
		t.Errorf("Read = %v, %v", got, e)
	}
	if s.Resident() != 0 {
		t.Errorf("%d resident", s.Resident())
	}
	for i := range 8 {
		write(t, s, sheet(i))
	}
	for _, outcome := range []byte{1, 2} {
		d.Outcomes([]byte{outcome})
		if got, e := s.Read(2); len(got) != 0 || e != api.ErrIO {
			t.Errorf("Read = %v, %v", got, e)
		}
		if s.Resident() != 8 || s.Pinned() != 0 {
			t.Errorf("%d resident, %d pinned", s.Resident(), s.Pinned())
		}
	}
	wantRead(t, "all is well again", s, 2, pageOf(d, 2))
	for i := range 8 {
		wantRead(t, "all is well again", s, 3+i, sheet(i))
	}
}

// P13.2: Write's errors, in the order of its sentence.
func TestWriteRefused(t *testing.T) {
	s := formatted(t, 16, 8)
	used := write(t, s, sheet(1))
	given := write(t, s, sheet(2))
	commit(t, s, nil)
	wantSays(t, "Drop", s.Drop(given), api.OK)
	older := write(t, s, sheet(3))
	gone := write(t, s, sheet(4))
	wantSays(t, "Drop", s.Drop(gone), api.OK)
	s.Mark()
	own := write(t, s, sheet(5))
	dropped := write(t, s, sheet(6))
	wantSays(t, "Drop", s.Drop(dropped), api.OK)
	image, ops, resident := s.Device().Image(), s.Device().Ops(), s.Resident()

	for _, page := range append([]int{16, 17}, farPages...) {
		wantSays(t, fmt.Sprintf("Write(%d)", page), s.Write(page, sheet(9)), api.ErrArg)
		wantSays(t, fmt.Sprintf("Write(%d, too short)", page), s.Write(page, nil), api.ErrArg)
	}
	for page := range 16 {
		for _, b := range wrongPages() {
			wantSays(t, fmt.Sprintf("Write(%d) of %d bytes", page, len(b)), s.Write(page, b), api.ErrArg)
		}
	}
	for page := range 16 {
		if page != own {
			wantSays(t, fmt.Sprintf("Write(%d)", page), s.Write(page, sheet(9)), api.ErrState)
		}
	}
	if d := s.Device(); !bytes.Equal(d.Image(), image) || d.Ops() != ops || s.Resident() != resident {
		t.Errorf("a Write that was refused did something")
	}
	wantRead(t, "used", s, used, sheet(1))
	wantRead(t, "pending", s, given, sheet(2))
	wantRead(t, "own at the point", s, older, sheet(3))
	wantRead(t, "own", s, own, sheet(5))
	wantSays(t, "Write of an own one", s.Write(own, sheet(7)), api.OK)
	wantRead(t, "own", s, own, sheet(7))
	wantOwn(t, "at the end", s, older, own)
}

// P13.2: the pool's error of Write: the page keeps the bytes that it had.
func TestWriteFails(t *testing.T) {
	s := formatted(t, 32, 8)
	d := s.Device()
	for i := range 9 {
		write(t, s, sheet(i))
	}
	// Page 3 left its frame for page 11; all other frames are dirty.
	for _, outcome := range []byte{1, 2} {
		d.Outcomes([]byte{outcome})
		wantSays(t, "Write(3)", s.Write(3, sheet(30)), api.ErrIO)
	}
	for i := range 9 {
		wantRead(t, "as ahead of it", s, 3+i, sheet(i))
	}
	wantSays(t, "Write(3)", s.Write(3, sheet(30)), api.OK)
	wantRead(t, "again", s, 3, sheet(30))
}

// P13.2: Drop's answers are those of space.Give, for each of the four states of a page, and for those at the point.
func TestDrop(t *testing.T) {
	s := formatted(t, 16, 8)
	used, given := write(t, s, sheet(1)), write(t, s, sheet(2))
	commit(t, s, nil)
	refused := func(what string, want api.Errno, pages ...int) {
		t.Helper()
		for _, page := range pages {
			free := s.Free()
			wantSays(t, fmt.Sprintf("%s: Drop(%d)", what, page), s.Drop(page), want)
			wantFree(t, what, s, free)
		}
	}
	for range 2 {
		refused("no page, or a superblock's", api.ErrArg, append([]int{0, 1, 16, 17}, farPages...)...)
		refused("free", api.ErrState, 6, 7, 15)
		s.Mark()
	}
	wantSays(t, "Drop of a used one", s.Drop(given), api.OK)
	wantFree(t, "Drop of a used one", s, 11)
	refused("pending", api.ErrState, given)
	a, b := write(t, s, sheet(3)), write(t, s, sheet(4))
	s.Mark()
	refused("pending", api.ErrState, given)
	wantSays(t, "Drop of one that was own at the point", s.Drop(a), api.OK)
	wantFree(t, "Drop of one that was own at the point", s, 10)
	wantOwn(t, "Drop of one that was own at the point", s, b)
	refused("dropped already", api.ErrState, a)
	c := write(t, s, sheet(5))
	wantSays(t, "Drop of one that was taken since", s.Drop(c), api.OK)
	wantFree(t, "Drop of one that was taken since", s, 10)
	refused("dropped already", api.ErrState, a, c)
	s.Mark()
	refused("dropped ahead of the point", api.ErrState, a, c)
	wantSays(t, "Drop of a used one", s.Drop(used), api.OK)
	commit(t, s, nil)
	// The free map stands on a now, the least that was free.
	refused("given up by the commit", api.ErrState, used, given, c)
	wantSays(t, "it was own, and is used now", s.Drop(b), api.OK)
}

// P13.2: Bytes of states of all lengths at which something changes.
func TestBytes(t *testing.T) {
	s := formatted(t, 64, 8)
	for i, n := range []int{0, 1, 2, 243, 244, 245, 487, 488, 489, 20 * room, 20*room + 1, 1, 0} {
		state := mixed(i, n)
		commit(t, s, state)
		wantBytes(t, fmt.Sprint(n, " bytes"), s, s.Super().State, state)
		if (s.Super().State == 0) != (n == 0) {
			t.Errorf("%d bytes: State is %d", n, s.Super().State)
		}
		bits, _ := chainOf(s.Device().Image(), s.Super().Free)
		wantBytes(t, "the free map", s, s.Super().Free, bits)
		wantSays(t, "Evict", s.Evict(64), api.OK)
		wantBytes(t, fmt.Sprint(n, " bytes, evicted"), s, s.Super().State, state)
		wantBytes(t, "opened anew", opened(t, s.Device(), 8), s.Super().State, state)
	}
	wantBytes(t, "page 0", s, 0, nil)
	if s.Pinned() != 0 {
		t.Errorf("%d pinned", s.Pinned())
	}
}

// P13.2: Bytes of what is no chain.
func TestBytesCorrupt(t *testing.T) {
	s := formatted(t, 16, 8)
	for _, page := range append([]int{16, 17}, farPages...) {
		wantNoBytes(t, "no such page", s, page, api.ErrArg)
	}
	wantAlloc(t, "all", s, upTo(3, 16)...)
	part := mixed(1, room)
	put := func(page int, b []byte) {
		t.Helper()
		wantSays(t, "Write", s.Write(page, b), api.OK)
	}
	put(3, link(0, part[:7]))
	put(4, link(3, part))
	wantBytes(t, "a chain by hand", s, 4, append(bytes.Clone(part), part[:7]...))
	wantBytes(t, "its end", s, 3, part[:7])

	wantNoBytes(t, "a superblock's page", s, 1, api.ErrCorrupt)
	put(5, sealed(api.KindText, 0, 3, []byte("abc")))
	wantNoBytes(t, "a text page", s, 5, api.ErrCorrupt)
	put(6, link(5, part))
	wantNoBytes(t, "a text page behind one of a chain", s, 6, api.ErrCorrupt)
	put(7, link(7, part))
	wantNoBytes(t, "it leads to itself", s, 7, api.ErrCorrupt)
	put(8, link(9, part))
	put(9, link(10, part))
	put(10, link(8, part))
	wantNoBytes(t, "it goes round", s, 8, api.ErrCorrupt)
	put(11, link(8, part))
	wantNoBytes(t, "it leads to one that goes round", s, 11, api.ErrCorrupt)
	for _, next := range []int{1, 16, 17, 4095, 4096, 1 << 31} {
		put(12, link(next, part))
		wantNoBytes(t, fmt.Sprint("it leads to page ", next), s, 12, api.ErrCorrupt)
		put(13, link(12, part))
		wantNoBytes(t, fmt.Sprint("it leads on to page ", next), s, 13, api.ErrCorrupt)
	}
	torn := link(3, part)
	torn[100] ^= 1
	put(14, torn)
	wantNoBytes(t, "its sum is another", s, 14, api.ErrCorrupt)
	put(15, make([]byte, api.PageSize))
	wantNoBytes(t, "noughts", s, 15, api.ErrCorrupt)
	put(15, link(14, part))
	wantNoBytes(t, "the sum of the next one is another", s, 15, api.ErrCorrupt)
}

// P13.2: the pool's errors of Bytes come where they are met.
func TestBytesFails(t *testing.T) {
	s := formatted(t, 32, 8)
	state := mixed(1, 4*room+1)
	commit(t, s, state)
	for at := range 6 {
		o := opened(t, s.Device().Crash(nil), 8)
		d := o.Device()
		d.Outcomes(append(make([]byte, at), 1))
		if at < 5 {
			wantNoBytes(t, fmt.Sprint("read ", at), o, s.Super().State, api.ErrIO)
			continue
		}
		wantBytes(t, fmt.Sprint("read ", at), o, s.Super().State, state)
	}
	// What goes round is refused ahead of a read that would fail.
	wantAlloc(t, "a page", s, 2)
	wantSays(t, "Write", s.Write(2, link(2, state[:room])), api.OK)
	s.Device().Outcomes([]byte{1})
	wantNoBytes(t, "it leads to itself", s, 2, api.ErrCorrupt)
}

// P13.4: there is no point ahead of Mark, nor behind a Commit that was done.
func TestNoPoint(t *testing.T) {
	s := formatted(t, 16, 8)
	wantBack(t, "Format", s, false)
	a := write(t, s, sheet(1))
	wantBack(t, "Format", s, false)
	wantOwn(t, "Back without a point", s, a)
	wantSays(t, "Write without a point", s.Write(a, sheet(2)), api.OK)
	s.Mark()
	wantBack(t, "Mark", s, true)
	commit(t, s, nil)
	wantBack(t, "Commit", s, false)
	// Behind a commit what stood at the point is no longer held.
	wantSays(t, "Drop", s.Drop(a), api.OK)
	o := opened(t, formatted(t, 16, 8).Device(), 8)
	wantBack(t, "Open", o, false)
}

// P13.4: Back undoes what was taken, written and dropped since the point, as often as it likes.
func TestBack(t *testing.T) {
	for _, evict := range []int{0, 3, 16} {
		s := formatted(t, 20, 8)
		used, given := write(t, s, sheet(1)), write(t, s, sheet(2))
		commit(t, s, nil)
		wantSays(t, "Drop", s.Drop(given), api.OK)
		a, b := write(t, s, sheet(3)), write(t, s, sheet(4))
		free := s.Free()
		s.Mark()
		look := func(what string) {
			t.Helper()
			wantOwn(t, what, s, a, b)
			wantFree(t, what, s, free)
			wantSays(t, what+": Drop of a pending one", s.Drop(given), api.ErrState)
			for page, want := range map[int][]byte{used: sheet(1), given: sheet(2), a: sheet(3), b: sheet(4)} {
				wantRead(t, what, s, page, want)
			}
		}
		look("Mark")
		for i := range 4 {
			what := fmt.Sprint("round ", i)
			var taken []int
			for range 1 + 2*i {
				taken = append(taken, write(t, s, sheet(10+i)))
			}
			for _, page := range []int{a, used, taken[0]} {
				wantSays(t, what+": Drop", s.Drop(page), api.OK)
			}
			wantFree(t, what, s, free-len(taken)+2)
			// What is free, but was not at the point, is not told.
			again := write(t, s, sheet(20))
			if again != taken[0] {
				t.Fatalf("%s: Alloc = %d, want %d", what, again, taken[0])
			}
			wantSays(t, what+": Evict", s.Evict(evict), api.OK)
			wantBack(t, what, s, true)
			look(what)
			wantSays(t, what+": Write of one that was own at the point", s.Write(a, sheet(9)), api.ErrState)
		}
		wantBack(t, "at once again", s, true)
		look("at once again")
		commit(t, s, nil)
		for page, want := range map[int][]byte{used: sheet(1), a: sheet(3), b: sheet(4)} {
			if got := pageOf(s.Device(), page); !bytes.Equal(got, want) {
				t.Errorf("page %d on the device is %v, want %v", page, got, want)
			}
		}
	}
}

// P13.2, P13.4: all pages that are free and were free at the point are told, and then none.
func TestFullAtThePoint(t *testing.T) {
	s := formatted(t, 12, 8)
	wantAlloc(t, "ahead of the point", s, 3, 4, 5, 6)
	s.Mark()
	for _, page := range []int{3, 5} {
		wantSays(t, "Drop", s.Drop(page), api.OK)
	}
	wantAlloc(t, "behind it", s, 7, 8, 9, 10, 11)
	wantFree(t, "behind it", s, 2)
	wantNoAlloc(t, "what stood at the point is not told", s)
	wantOwn(t, "behind it", s, 4, 6, 7, 8, 9, 10, 11)
	s.Mark()
	wantFree(t, "another point", s, 2)
	wantAlloc(t, "another point", s, 3, 5)
	wantNoAlloc(t, "another point", s)
	wantSays(t, "Write", s.Write(3, sheet(1)), api.OK)
	wantBack(t, "another point", s, true)
	wantOwn(t, "another point", s, 4, 6, 7, 8, 9, 10, 11)
	wantAlloc(t, "another point", s, 3, 5)
}

// P13.4: the point is where Mark was called last; what was written ahead of it may not be written again, nor is it taken back.
func TestMarkAgain(t *testing.T) {
	s := formatted(t, 16, 8)
	a := write(t, s, sheet(1))
	s.Mark()
	b := write(t, s, sheet(2))
	wantSays(t, "Write", s.Write(b, sheet(3)), api.OK)
	wantSays(t, "Drop", s.Drop(a), api.OK)
	s.Mark()
	wantSays(t, "Write", s.Write(b, sheet(4)), api.ErrState)
	wantAlloc(t, "dropped ahead of the point", s, a)
	wantSays(t, "Write", s.Write(a, sheet(5)), api.OK)
	wantBack(t, "the second point", s, true)
	wantOwn(t, "the second point", s, b)
	wantRead(t, "the second point", s, b, sheet(3))
}

// P13.5: Evict, Resident and Pinned are the pool's.
func TestFrames(t *testing.T) {
	for _, frames := range []int{8, 9, 30} {
		s := formatted(t, 64, frames)
		for i := range 40 {
			write(t, s, sheet(i))
			if want := min(i+1, frames); s.Resident() != want || s.Pinned() != 0 {
				t.Fatalf("%d written: %d resident, %d pinned, want %d, 0", i+1, s.Resident(), s.Pinned(), want)
			}
		}
		wantSays(t, "Evict(-1)", s.Evict(-1), api.OK)
		wantSays(t, "Evict(0)", s.Evict(0), api.OK)
		if s.Resident() != frames {
			t.Errorf("none evicted: %d resident", s.Resident())
		}
		wantSays(t, "Evict(3)", s.Evict(3), api.OK)
		if s.Resident() != frames-3 {
			t.Errorf("three evicted: %d resident", s.Resident())
		}
		s.Device().Outcomes([]byte{0, 1})
		wantSays(t, "Evict", s.Evict(3), api.ErrIO)
		if s.Resident() != frames-4 {
			t.Errorf("one evicted, the next fails: %d resident", s.Resident())
		}
		commit(t, s, mixed(1, 20*room))
		if s.Resident() > frames || s.Pinned() != 0 {
			t.Errorf("commit: %d resident, %d pinned", s.Resident(), s.Pinned())
		}
		wantSays(t, "Evict", s.Evict(1<<40), api.OK)
		if s.Resident() != 0 {
			t.Errorf("all evicted: %d resident", s.Resident())
		}
		for i := range 40 {
			wantRead(t, "all evicted", s, 3+i, sheet(i))
		}
	}
}

// R7: a store that no call made.
func TestNoStore(t *testing.T) {
	for _, s := range []*store.Store{nil, {}} {
		s.Mark()
		page, e := s.Alloc()
		read, f := s.Read(0)
		blob, g := s.Bytes(0)
		for i, got := range []api.Errno{e, f, g, s.Write(2, sheet(1)), s.Write(-1, nil), s.Drop(2), s.Drop(0), s.Evict(1), s.Evict(0), s.Commit(api.Super{}, nil), s.Commit(api.Super{Root: -1}, make([]byte, api.MaxBlob+1))} {
			if got != api.ErrState {
				t.Errorf("call %d of no store: %v", i, got)
			}
		}
		if page != 0 || len(read)+len(blob) != 0 || s.Back() || s.Free() != 0 || s.Own(2) || s.Own(0) || s.Resident() != 0 || s.Pinned() != 0 || s.Super() != (api.Super{}) || s.Device() != nil {
			t.Errorf("no store tells something")
		}
	}
}

// R4: what is handed in, and what is handed out, may be changed by who has it.
func TestShareNothing(t *testing.T) {
	s := formatted(t, 32, 8)
	spare := mixed(7, 2*api.PageSize)
	kept := bytes.Clone(spare)
	b := spare[:api.PageSize]
	page := write(t, s, b)
	if !bytes.Equal(spare, kept) {
		t.Errorf("Write changed what was handed in")
	}
	want := bytes.Clone(b)
	clear(spare)
	wantRead(t, "Write", s, page, want)
	got, _ := s.Read(page)
	clear(got[:cap(got)])
	wantRead(t, "Read", s, page, want)

	long := mixed(8, 1000)
	kept = bytes.Clone(long)
	state := long[:600]
	commit(t, s, state)
	if !bytes.Equal(long, kept) {
		t.Errorf("Commit changed what was handed in")
	}
	clear(long)
	for range 2 {
		wantBytes(t, "Commit", s, s.Super().State, kept[:600])
		blob, _ := s.Bytes(s.Super().State)
		clear(blob[:cap(blob)])
	}
	sealed := block(s.Super())
	for range 2 {
		wantRead(t, "a superblock", s, 1, sealed)
		got, _ = s.Read(1)
		clear(got[:cap(got)])
	}
	if !bytes.Equal(pageOf(s.Device(), 1), sealed) {
		t.Errorf("what was read is the device's own")
	}
}
