package device_test

import (
	"bytes"
	"fmt"
	"math"
	"math/rand"
	"testing"

	"escritoire/api"
	"escritoire/device"
)

// farPages lie on no device; a product with a page's size wraps round at some of them.
var farPages = []int{math.MinInt, math.MinInt + 1, -1 << 56, -1 << 32, -4096, -256, -2, -1, 4096, 4097, 1 << 31, 1 << 32, 1 << 55, 1 << 56, 1<<56 + 1, 1 << 62, math.MaxInt - 1, math.MaxInt}

func fresh(t *testing.T, pages int) *device.Device {
	t.Helper()
	d, e := device.New(pages)
	if e != api.OK || d == nil {
		t.Fatalf("New(%d) = %v, %v", pages, d, e)
	}
	return d
}

func loaded(t *testing.T, b []byte) *device.Device {
	t.Helper()
	d, e := device.Load(b)
	if e != api.OK || d == nil {
		t.Fatalf("Load of %d bytes = %v, %v", len(b), d, e)
	}
	return d
}

// full is a page of one byte.
func full(c byte) []byte {
	return bytes.Repeat([]byte{c}, api.PageSize)
}

// mixed has in each sector other bytes, in another order, so that a sector or a byte at a wrong place shows.
func mixed(seed int) []byte {
	b := make([]byte, api.PageSize)
	rand.New(rand.NewSource(int64(seed))).Read(b)
	return b
}

// image is of so many pages, no two of them alike.
func image(pages int) []byte {
	b := make([]byte, pages*api.PageSize)
	rand.New(rand.NewSource(int64(pages))).Read(b)
	return b
}

// pageOf looks without an op, so that it may be asked of a dead device too.
func pageOf(d *device.Device, page int) []byte {
	return d.Image()[page*api.PageSize : (page+1)*api.PageSize]
}

func wantPage(t *testing.T, what string, d *device.Device, page int, want []byte) {
	t.Helper()
	if got := pageOf(d, page); !bytes.Equal(got, want) {
		t.Errorf("%s: page %d is %v, want %v", what, page, got, want)
	}
}

func wantRead(t *testing.T, what string, d *device.Device, page int, want []byte) {
	t.Helper()
	if got, e := d.Read(page); e != api.OK || !bytes.Equal(got, want) {
		t.Errorf("%s: Read(%d) = %v, %v, want %v", what, page, got, e, want)
	}
}

func wantNoRead(t *testing.T, what string, d *device.Device, page int, want api.Errno) {
	t.Helper()
	if got, e := d.Read(page); e != want || len(got) != 0 {
		t.Errorf("%s: Read(%d) = %v, %v, want nothing, %v", what, page, got, e, want)
	}
}

func wantSays(t *testing.T, what string, got, want api.Errno) {
	t.Helper()
	if got != want {
		t.Errorf("%s: %v, want %v", what, got, want)
	}
}

func wantOps(t *testing.T, what string, d *device.Device, want int) {
	t.Helper()
	if got := d.Ops(); got != want {
		t.Errorf("%s: %d ops, want %d", what, got, want)
	}
}

func wantImage(t *testing.T, what string, d *device.Device, want []byte) {
	t.Helper()
	if !bytes.Equal(d.Image(), want) {
		t.Errorf("%s: the image is not as it should be", what)
	}
}

func TestExamples(t *testing.T) {
	d := fresh(t, 8)
	wantSays(t, "Write", d.Write(2, full(1)), api.OK)
	wantRead(t, "Crash(0)", d.Crash([]byte{0}), 2, full(0))
	wantRead(t, "Crash(none)", d.Crash(nil), 2, full(1))
	wantRead(t, "Crash(1)", d.Crash([]byte{1}), 2, append(bytes.Repeat([]byte{1}, 64), make([]byte, 192)...))

	d = fresh(t, 8)
	d.Outcomes([]byte{1})
	wantSays(t, "Sync with outcome 1", d.Sync(), api.ErrIO)
	d.Fuse(0)
	wantSays(t, "the dying Write", d.Write(3, full(1)), api.ErrIO)
	wantNoRead(t, "dead", d, 3, api.ErrIO)
	wantRead(t, "Crash(none) of the dead one", d.Crash(nil), 3, full(1))
}

// P5.1: New at both bounds, and one past them.
func TestNewBounds(t *testing.T) {
	for _, pages := range []int{api.MinPages, api.MinPages + 1, 100, api.MaxPages - 1, api.MaxPages} {
		d := fresh(t, pages)
		if d.Pages() != pages || d.Ops() != 0 || d.Dead() {
			t.Errorf("New(%d): %d pages, %d ops, dead %v", pages, d.Pages(), d.Ops(), d.Dead())
		}
		wantImage(t, "New", d, make([]byte, pages*api.PageSize))
		wantImage(t, "Crash of New", d.Crash([]byte{0}), make([]byte, pages*api.PageSize))
	}
	for _, pages := range []int{math.MinInt, -1 << 56, -api.MinPages, -1, 0, 1, api.MinPages - 1, api.MaxPages + 1, 1 << 32, 1<<56 + 8, math.MaxInt} {
		if d, e := device.New(pages); d != nil || e != api.ErrArg {
			t.Errorf("New(%d) = %v, %v", pages, d, e)
		}
	}
}

// P5.1: Load at both bounds, one byte and one page past them, and a byte off a whole page between.
func TestLoadBounds(t *testing.T) {
	for _, pages := range []int{api.MinPages, api.MinPages + 1, 100, api.MaxPages - 1, api.MaxPages} {
		b := image(pages)
		d := loaded(t, b)
		if d.Pages() != pages || d.Ops() != 0 || d.Dead() {
			t.Errorf("Load of %d pages: %d pages, %d ops, dead %v", pages, d.Pages(), d.Ops(), d.Dead())
		}
		wantImage(t, "Load", d, b)
		wantImage(t, "Crash of Load", d.Crash([]byte{0}), b)
		wantRead(t, "Load", d, 0, b[:api.PageSize])
		wantRead(t, "Load", d, pages-1, b[(pages-1)*api.PageSize:])
	}
	least, most := api.MinPages*api.PageSize, api.MaxPages*api.PageSize
	for _, n := range []int{0, 1, api.PageSize, least - api.PageSize, least - 1, least + 1, least + api.SectorSize, 10*api.PageSize - 1, 10*api.PageSize + 1, most - 1, most + 1, most + api.PageSize} {
		if d, e := device.Load(make([]byte, n)); d != nil || e != api.ErrArg {
			t.Errorf("Load of %d bytes = %v, %v", n, d, e)
		}
	}
	if d, e := device.Load(nil); d != nil || e != api.ErrArg {
		t.Errorf("Load(nil) = %v, %v", d, e)
	}
	// Room behind a list is no part of it.
	if d, e := device.Load(make([]byte, least-1, least)); d != nil || e != api.ErrArg {
		t.Errorf("Load takes spare room: %v, %v", d, e)
	}
}

// P5.2: what is written is read, on the first page, on the last one and on one between, and nowhere else.
func TestWrittenIsRead(t *testing.T) {
	for _, pages := range []int{api.MinPages, 9, api.MaxPages} {
		for _, page := range []int{0, 3, pages - 1} {
			b := image(pages)
			d := loaded(t, b)
			wantSays(t, "Write", d.Write(page, mixed(1)), api.OK)
			wantRead(t, "written", d, page, mixed(1))
			copy(b[page*api.PageSize:], mixed(1))
			wantImage(t, fmt.Sprintf("%d pages, page %d written", pages, page), d, b)
			wantSays(t, "Write", d.Write(page, mixed(2)), api.OK)
			wantRead(t, "written again", d, page, mixed(2))
			wantOps(t, "written twice and read twice", d, 4)
		}
	}
}

// P5.2: Image is what Read tells of each page, one behind the other.
func TestImageIsAllPages(t *testing.T) {
	d := fresh(t, 12)
	for page := range 12 {
		d.Write(page, mixed(page))
	}
	var want []byte
	for page := range 12 {
		b, e := d.Read(page)
		wantSays(t, "Read", e, api.OK)
		if !bytes.Equal(b, mixed(page)) {
			t.Errorf("page %d: %v", page, b)
		}
		want = append(want, b...)
	}
	wantImage(t, "all written", d, want)
	wantOps(t, "Image is no op", d, 24)
}

// P5.2, P5.4: what is synced lasts whatever is chosen; what is not may get lost.
func TestSyncedLasts(t *testing.T) {
	d := fresh(t, 8)
	d.Write(0, mixed(1))
	d.Write(7, mixed(2))
	wantPage(t, "not synced", d.Crash([]byte{0, 0}), 0, full(0))
	wantPage(t, "not synced", d.Crash([]byte{0, 0}), 7, full(0))
	wantSays(t, "Sync", d.Sync(), api.OK)
	for _, choice := range [][]byte{nil, {0}, {0, 0}, {0, 0, 0, 0}, {15, 15}, {255}} {
		c := d.Crash(choice)
		wantPage(t, "synced", c, 0, mixed(1))
		wantPage(t, "synced", c, 7, mixed(2))
		wantPage(t, "never written", c, 3, full(0))
	}
	wantRead(t, "Sync changes nothing now", d, 0, mixed(1))
	wantSays(t, "Sync of nothing", d.Sync(), api.OK)
	wantOps(t, "two Writes, two Syncs, a Read", d, 5)
}

// P5.1, P5.2: what is refused is no op, takes no outcome, burns no fuse, changes nothing.
func TestRefused(t *testing.T) {
	lists := [][]byte{nil, {}, {1}, make([]byte, api.SectorSize), make([]byte, api.PageSize-1), make([]byte, api.PageSize+1), make([]byte, 2*api.PageSize), make([]byte, 0, api.PageSize), make([]byte, api.PageSize-1, api.PageSize)}
	b := image(8)
	d := loaded(t, b)
	d.Outcomes([]byte{2})
	d.Fuse(1)
	for _, page := range append(farPages, 8, 9) {
		wantNoRead(t, "no such page", d, page, api.ErrArg)
		wantSays(t, fmt.Sprintf("Write(%d, a page)", page), d.Write(page, full(1)), api.ErrArg)
		for _, l := range lists {
			wantSays(t, fmt.Sprintf("Write(%d, %d bytes)", page, len(l)), d.Write(page, l), api.ErrArg)
		}
	}
	for page := range 8 {
		for _, l := range lists {
			wantSays(t, fmt.Sprintf("Write(%d, %d bytes)", page, len(l)), d.Write(page, l), api.ErrArg)
		}
	}
	wantOps(t, "all refused", d, 0)
	wantImage(t, "all refused", d, b)
	wantImage(t, "all refused, behind a crash", d.Crash(nil), b)
	if d.Dead() {
		t.Error("what is refused burns the fuse")
	}
	wantSays(t, "the outcome is still there", d.Write(1, full(1)), api.ErrIO)
	wantPage(t, "and it was done", d, 1, full(1))
	wantSays(t, "the fuse is at its end", d.Sync(), api.ErrIO)
	if !d.Dead() {
		t.Error("the fuse was lost")
	}
	wantOps(t, "two that were not refused", d, 2)
}

// P5.1: a page past the last is one past the device's own pages, not past MaxPages.
func TestPagePastTheLast(t *testing.T) {
	for _, pages := range []int{api.MinPages, 9, 64, api.MaxPages} {
		d := fresh(t, pages)
		wantSays(t, "the last page", d.Write(pages-1, full(1)), api.OK)
		wantSays(t, "past it", d.Write(pages, full(1)), api.ErrArg)
		wantNoRead(t, "past it", d, pages, api.ErrArg)
		wantNoRead(t, "below 0", d, -1, api.ErrArg)
	}
}

// P5.1: a dead device answers ErrIO, but to what is refused, and none of that is an op.
func TestDead(t *testing.T) {
	for name, dying := range map[string]func(d *device.Device) api.Errno{
		"Read":  func(d *device.Device) api.Errno { _, e := d.Read(2); return e },
		"Write": func(d *device.Device) api.Errno { return d.Write(2, mixed(3)) },
		"Sync":  (*device.Device).Sync,
	} {
		d := fresh(t, 8)
		d.Write(1, mixed(1))
		d.Fuse(0)
		if d.Dead() {
			t.Errorf("%s: dead ahead of it", name)
		}
		wantSays(t, name, dying(d), api.ErrIO)
		if !d.Dead() {
			t.Errorf("%s: not dead behind it", name)
		}
		wantOps(t, name, d, 2)
		before := d.Image()
		for range 3 {
			wantNoRead(t, name, d, 1, api.ErrIO)
			wantNoRead(t, name, d, 8, api.ErrArg)
			wantNoRead(t, name, d, -1, api.ErrArg)
			wantSays(t, name, d.Write(1, full(9)), api.ErrIO)
			wantSays(t, name, d.Write(8, full(9)), api.ErrArg)
			wantSays(t, name, d.Write(1, nil), api.ErrArg)
			wantSays(t, name, d.Write(9, nil), api.ErrArg)
			wantSays(t, name, d.Sync(), api.ErrIO)
		}
		wantOps(t, name+", dead", d, 2)
		wantImage(t, name+", dead", d, before)
		wantPage(t, name+", what was not synced", d.Crash([]byte{0, 0}), 1, full(0))
		wantPage(t, name+", what was not synced", d.Crash(nil), 1, mixed(1))
		if d.Pages() != 8 || !d.Dead() {
			t.Errorf("%s: %d pages, dead %v", name, d.Pages(), d.Dead())
		}
	}
}

// P5.2, P5.3: the bytes of the Write at which the device dies are there now, and behind a crash as it is chosen.
func TestWriteAtWhichItDies(t *testing.T) {
	d := loaded(t, image(8))
	d.Write(2, mixed(1))
	d.Fuse(0)
	wantSays(t, "the dying Write", d.Write(2, mixed(2)), api.ErrIO)
	wantPage(t, "now", d, 2, mixed(2))
	wantPage(t, "none chosen", d.Crash(nil), 2, mixed(2))
	wantPage(t, "not left", d.Crash([]byte{15, 0}), 2, mixed(1))
	wantPage(t, "both not left", d.Crash([]byte{0, 0}), 2, image(8)[2*api.PageSize:3*api.PageSize])
	want := append(mixed(1)[:64:64], mixed(2)[64:128]...)
	wantPage(t, "its second sector", d.Crash([]byte{15, 2}), 2, append(want, mixed(1)[128:]...))
	wantSays(t, "later", d.Write(3, mixed(4)), api.ErrIO)
	wantPage(t, "a Write to the dead one is not there", d, 3, image(8)[3*api.PageSize:4*api.PageSize])
	wantPage(t, "nor behind a crash", d.Crash(nil), 3, image(8)[3*api.PageSize:4*api.PageSize])
}

// P5.2: a Sync at which the device dies is not done.
func TestSyncAtWhichItDies(t *testing.T) {
	d := fresh(t, 8)
	d.Write(2, mixed(1))
	d.Fuse(0)
	wantSays(t, "the dying Sync", d.Sync(), api.ErrIO)
	wantPage(t, "now", d, 2, mixed(1))
	wantPage(t, "does not last", d.Crash([]byte{0}), 2, full(0))
	wantPage(t, "may be left", d.Crash([]byte{15}), 2, mixed(1))
}

// P5.2: where the device dies there is no outcome that would let an op go well, nor one that takes a Write's bytes back.
func TestDyingIsAheadOfOutcomes(t *testing.T) {
	for c := range 256 {
		d := fresh(t, 8)
		d.Outcomes([]byte{byte(c), byte(c)})
		d.Fuse(0)
		wantSays(t, fmt.Sprintf("outcome %d at the dying Write", c), d.Write(5, mixed(1)), api.ErrIO)
		wantPage(t, "now", d, 5, mixed(1))
		wantPage(t, "behind a crash", d.Crash(nil), 5, mixed(1))
		if !d.Dead() || d.Ops() != 1 {
			t.Errorf("outcome %d: dead %v, %d ops", c, d.Dead(), d.Ops())
		}
	}
}

// P5.2: each outcome there is, at each kind of op.
func TestEachOutcome(t *testing.T) {
	for c := range 256 {
		what := fmt.Sprintf("outcome %d", c)
		says := []api.Errno{api.OK, api.ErrIO, api.ErrIO}[c%3]

		d := loaded(t, image(8))
		d.Outcomes([]byte{byte(c)})
		if c%3 == 1 {
			wantNoRead(t, what, d, 1, api.ErrIO)
		} else {
			wantRead(t, what, d, 1, image(8)[256:512])
		}
		wantRead(t, what+", then none", d, 1, image(8)[256:512])
		wantOps(t, what, d, 2)

		d = fresh(t, 8)
		d.Outcomes([]byte{byte(c)})
		wantSays(t, what+" of Write", d.Write(1, mixed(1)), says)
		now := mixed(1)
		if c%3 == 1 {
			now = full(0)
		}
		wantPage(t, what+" of Write", d, 1, now)
		wantPage(t, what+" of Write, behind a crash", d.Crash(nil), 1, now)
		wantPage(t, what+" of Write, lost", d.Crash([]byte{0}), 1, full(0))
		wantSays(t, what+", then none", d.Write(1, mixed(2)), api.OK)
		wantPage(t, what+", then none", d, 1, mixed(2))
		wantOps(t, what, d, 2)

		d = fresh(t, 8)
		d.Write(1, mixed(1))
		d.Outcomes([]byte{byte(c)})
		wantSays(t, what+" of Sync", d.Sync(), says)
		lasts := mixed(1)
		if c%3 == 1 {
			lasts = full(0)
		}
		wantPage(t, what+" of Sync", d.Crash([]byte{0}), 1, lasts)
		wantPage(t, what+" of Sync, now", d, 1, mixed(1))
		wantSays(t, what+", then none", d.Sync(), api.OK)
		wantPage(t, what+", then none", d.Crash([]byte{0}), 1, mixed(1))
		wantOps(t, what, d, 3)
		if d.Dead() {
			t.Errorf("%s kills", what)
		}
	}
}

// P5.2: outcomes stand one behind the other, those of a second call behind those of the first, whichever kinds of op take them.
func TestOutcomesTwice(t *testing.T) {
	d := fresh(t, 8)
	d.Outcomes([]byte{0, 1})
	d.Outcomes(nil)
	d.Outcomes([]byte{})
	d.Outcomes([]byte{2, 1, 0, 1})
	var got []api.Errno
	got = append(got, d.Write(0, full(1)), d.Write(1, full(1)), d.Write(2, full(1)), d.Sync())
	_, e := d.Read(0)
	got = append(got, e, d.Sync(), d.Sync())
	want := []api.Errno{api.OK, api.ErrIO, api.ErrIO, api.ErrIO, api.OK, api.ErrIO, api.OK}
	if fmt.Sprint(got) != fmt.Sprint(want) {
		t.Errorf("said %v, want %v", got, want)
	}
	wantPage(t, "done", d, 0, full(1))
	wantPage(t, "not done", d, 1, full(0))
	wantPage(t, "done all the same", d, 2, full(1))
	wantOps(t, "all are ops", d, 7)

	// More behind those that are taken already, and between others.
	d = fresh(t, 8)
	d.Outcomes([]byte{1, 0})
	wantSays(t, "the first", d.Sync(), api.ErrIO)
	d.Outcomes([]byte{1})
	wantSays(t, "the second", d.Sync(), api.OK)
	wantSays(t, "the third", d.Sync(), api.ErrIO)
	wantSays(t, "none", d.Sync(), api.OK)
	d.Outcomes([]byte{1})
	wantSays(t, "behind a while without", d.Sync(), api.ErrIO)
}

// dies tells at which of the next ops, from 0 on, the device dies; -1 at none of so many.
func dies(d *device.Device, most int) int {
	for i := range most {
		switch i % 3 {
		case 0:
			d.Sync()
		case 1:
			d.Write(i%8, full(byte(i)))
		case 2:
			d.Read(i % 8)
		}
		if d.Dead() {
			return i
		}
	}
	return -1
}

// P5.2: the device dies at the op ahead of which there are just n more.
func TestFuse(t *testing.T) {
	for n := range 20 {
		d := fresh(t, 8)
		d.Fuse(n)
		if at := dies(d, 40); at != n {
			t.Errorf("Fuse(%d): dies at op %d", n, at)
		}
		wantOps(t, "with the dying one", d, n+1)
		// Ops that were ahead of Fuse do not count.
		d = fresh(t, 8)
		dies(d, 5)
		d.Fuse(n)
		if at := dies(d, 40); at != n {
			t.Errorf("five ops, Fuse(%d): dies at op %d", n, at)
		}
		wantOps(t, "with the dying one and those ahead of Fuse", d, n+6)
	}
	for _, n := range []int{-1, -2, -100, math.MinInt, math.MinInt + 1, 41, 1 << 32, 1 << 62, math.MaxInt - 1, math.MaxInt} {
		d := fresh(t, 8)
		dies(d, 3)
		d.Fuse(n)
		if at := dies(d, 40); at != -1 {
			t.Errorf("Fuse(%d): dies at op %d", n, at)
		}
	}
	if at := dies(fresh(t, 8), 40); at != -1 {
		t.Errorf("without a fuse: dies at op %d", at)
	}
	if at := dies(loaded(t, image(8)), 40); at != -1 {
		t.Errorf("loaded: dies at op %d", at)
	}
}

// P5.2: a fuse that is set again stands instead of the first; below 0 it is taken out.
func TestFuseAgain(t *testing.T) {
	for _, c := range []struct{ first, ops, second, want int }{
		{0, 0, 1, 1}, {1, 0, 0, 0}, {5, 3, 5, 5}, {3, 3, 2, 2}, {3, 3, -1, -1}, {0, 0, -1, -1}, {7, 2, -5, -1}, {-1, 4, 0, 0}, {-1, 4, 3, 3}, {math.MaxInt, 2, 1, 1}, {math.MinInt, 2, 1, 1}, {2, 1, math.MaxInt, -1}, {2, 2, math.MinInt, -1},
	} {
		d := fresh(t, 8)
		d.Fuse(c.first)
		dies(d, c.ops)
		d.Fuse(c.second)
		if at := dies(d, 30); at != c.want {
			t.Errorf("Fuse(%d), %d ops, Fuse(%d): dies at %d, want %d", c.first, c.ops, c.second, at, c.want)
		}
	}
}

// P5.2: what failed by its outcome is an op for the fuse, too; what is refused is none.
func TestFuseCountsFailures(t *testing.T) {
	d := fresh(t, 8)
	d.Outcomes([]byte{1, 2, 1})
	d.Fuse(3)
	d.Write(-1, full(1))
	d.Sync()
	d.Write(1, nil)
	d.Write(1, full(1))
	d.Read(8)
	d.Read(1)
	if d.Dead() || d.Ops() != 3 {
		t.Errorf("dead %v, %d ops", d.Dead(), d.Ops())
	}
	wantSays(t, "the fourth", d.Sync(), api.ErrIO)
	if !d.Dead() || d.Ops() != 4 {
		t.Errorf("dead %v, %d ops", d.Dead(), d.Ops())
	}
}

// P5.2: a dead device stays so, whatever fuse is set, and whatever outcomes.
func TestFuseOfDead(t *testing.T) {
	for _, n := range []int{-1, 0, 1, 5, math.MaxInt, math.MinInt} {
		d := fresh(t, 8)
		d.Fuse(0)
		d.Sync()
		d.Fuse(n)
		d.Outcomes([]byte{0, 0, 2})
		wantSays(t, "dead", d.Sync(), api.ErrIO)
		wantNoRead(t, "dead", d, 0, api.ErrIO)
		wantSays(t, "dead", d.Write(0, full(1)), api.ErrIO)
		wantPage(t, "dead", d, 0, full(0))
		if !d.Dead() || d.Ops() != 1 {
			t.Errorf("Fuse(%d) of a dead one: dead %v, %d ops", n, d.Dead(), d.Ops())
		}
		if c := d.Crash(nil); c.Dead() || dies(c, 20) != -1 {
			t.Errorf("Fuse(%d) of a dead one is there behind a crash", n)
		}
	}
}

// torn is a page old on which the sectors of new are written whose bits are chosen.
func torn(old, new []byte, chosen byte) []byte {
	out := bytes.Clone(old)
	for s := range 4 {
		if chosen&[]byte{1, 2, 4, 8}[s] != 0 {
			copy(out[64*s:64*s+64], new[64*s:64*s+64])
		}
	}
	return out
}

// P5.3: each choice of a Write by itself, its four bits and the four that mean nothing.
func TestCrashEachChoice(t *testing.T) {
	b := image(8)
	for _, page := range []int{0, 3, 7} {
		d := loaded(t, b)
		d.Write(page, mixed(1))
		old := b[page*api.PageSize : (page+1)*api.PageSize]
		for c := range 256 {
			want := bytes.Clone(b)
			copy(want[page*api.PageSize:], torn(old, mixed(1), byte(c)))
			wantImage(t, fmt.Sprintf("page %d, choice %d", page, c), d.Crash([]byte{byte(c)}), want)
		}
	}
}

// P5.3: one bit is one sector, written out.
func TestCrashEachBit(t *testing.T) {
	d := fresh(t, 8)
	d.Write(4, full(7))
	for s, bit := range []byte{1, 2, 4, 8} {
		want := full(0)
		for i := range 64 {
			want[64*s+i] = 7
		}
		wantPage(t, fmt.Sprintf("bit %d", bit), d.Crash([]byte{bit}), 4, want)
	}
	for _, none := range []byte{0, 16, 32, 64, 128, 240} {
		wantPage(t, fmt.Sprintf("choice %d", none), d.Crash([]byte{none}), 4, full(0))
	}
	for _, all := range []byte{15, 31, 255} {
		wantPage(t, fmt.Sprintf("choice %d", all), d.Crash([]byte{all}), 4, full(7))
	}
}

// P5.3: a choice that is shorter than there are Writes, as long, and longer.
func TestCrashChoiceLengths(t *testing.T) {
	d := fresh(t, 8)
	for page := range 4 {
		d.Write(page, mixed(page))
	}
	choice := []byte{3, 0, 12, 5, 0, 0, 1}
	for n := range len(choice) + 1 {
		c := d.Crash(choice[:n:n])
		for page := range 4 {
			chosen := byte(15)
			if page < n {
				chosen = choice[page]
			}
			wantPage(t, fmt.Sprintf("%d choices", n), c, page, torn(full(0), mixed(page), chosen))
		}
		wantPage(t, "never written", c, 5, full(0))
	}
	wantPage(t, "spare room of the choice is no part of it", d.Crash(choice[:1]), 1, mixed(1))
	wantImage(t, "nothing was written, and much is chosen", fresh(t, 8).Crash(choice), make([]byte, 8*api.PageSize))
}

// P5.3: Writes to one page are written one over the other, in their order, and not in that of the pages.
func TestCrashTwoWritesToOnePage(t *testing.T) {
	b := image(8)
	old := b[2*api.PageSize : 3*api.PageSize]
	d := loaded(t, b)
	d.Write(2, mixed(1))
	d.Write(1, mixed(9))
	d.Write(2, mixed(2))
	wantPage(t, "now", d, 2, mixed(2))
	for first := range 16 {
		for second := range 16 {
			c := d.Crash([]byte{byte(first), 0, byte(second)})
			wantPage(t, fmt.Sprintf("choices %d, %d", first, second), c, 2, torn(torn(old, mixed(1), byte(first)), mixed(2), byte(second)))
			wantPage(t, "the one between", c, 1, b[api.PageSize:2*api.PageSize])
		}
	}
	wantPage(t, "the first one's choice alone", d.Crash([]byte{0}), 2, mixed(2))
}

// P5.3: Writes that said ErrIO and were done have a choice of their own; those that were not done have none.
func TestCrashWritesThatFailed(t *testing.T) {
	d := fresh(t, 8)
	d.Outcomes([]byte{1, 2, 0, 1, 2})
	for page := range 5 {
		d.Write(page, mixed(page))
	}
	d.Write(-1, full(1))
	d.Write(5, nil)
	want := func(what string, c *device.Device, chosen []byte) {
		t.Helper()
		wantPage(t, what+", not done", c, 0, full(0))
		wantPage(t, what+", done with ErrIO", c, 1, torn(full(0), mixed(1), chosen[0]))
		wantPage(t, what+", done", c, 2, torn(full(0), mixed(2), chosen[1]))
		wantPage(t, what+", not done", c, 3, full(0))
		wantPage(t, what+", done with ErrIO", c, 4, torn(full(0), mixed(4), chosen[2]))
		wantPage(t, what+", refused", c, 5, full(0))
	}
	want("now", d, []byte{15, 15, 15})
	want("none chosen", d.Crash(nil), []byte{15, 15, 15})
	want("three chosen", d.Crash([]byte{1, 2, 4}), []byte{1, 2, 4})
	want("three and more", d.Crash([]byte{8, 0, 6, 0, 0}), []byte{8, 0, 6})
	want("one chosen", d.Crash([]byte{0}), []byte{0, 15, 15})
}

// P5.3: a Sync between: the Writes ahead of it have no choice any more; behind it they are counted from the first one on.
func TestCrashBehindSync(t *testing.T) {
	for _, outcome := range []byte{0, 2} {
		d := fresh(t, 8)
		d.Write(1, mixed(1))
		d.Write(2, mixed(2))
		d.Outcomes([]byte{outcome})
		d.Sync()
		d.Write(2, mixed(3))
		d.Write(4, mixed(4))
		c := d.Crash([]byte{1, 2})
		wantPage(t, "lasts", c, 1, mixed(1))
		wantPage(t, "lasts, and written since", c, 2, torn(mixed(2), mixed(3), 1))
		wantPage(t, "written since", c, 4, torn(full(0), mixed(4), 2))
		wantPage(t, "all lost", d.Crash([]byte{0, 0}), 2, mixed(2))
	}
	d := fresh(t, 8)
	d.Write(1, mixed(1))
	d.Outcomes([]byte{1})
	d.Sync()
	d.Write(2, mixed(2))
	c := d.Crash([]byte{4, 8})
	wantPage(t, "a Sync that was not done", c, 1, torn(full(0), mixed(1), 4))
	wantPage(t, "a Sync that was not done", c, 2, torn(full(0), mixed(2), 8))
}

// P5.3: the device behind a crash has no fuse, no outcomes, no ops, is not dead, and its bytes last.
func TestCrashIsNew(t *testing.T) {
	for _, dead := range []bool{false, true} {
		d := fresh(t, 8)
		d.Write(1, mixed(1))
		d.Outcomes([]byte{1, 1, 1, 1})
		d.Fuse(0)
		if dead {
			d.Sync()
		}
		c := d.Crash([]byte{5})
		if c.Dead() || c.Ops() != 0 || c.Pages() != 8 {
			t.Errorf("dead %v, %d ops, %d pages", c.Dead(), c.Ops(), c.Pages())
		}
		want := torn(full(0), mixed(1), 5)
		for _, choice := range [][]byte{nil, {0}, {15}} {
			wantPage(t, "crashed again", c.Crash(choice), 1, want)
		}
		wantRead(t, "no outcome", c, 1, want)
		wantSays(t, "no outcome", c.Sync(), api.OK)
		if at := dies(c, 20); at != -1 {
			t.Errorf("it has a fuse: dies at %d", at)
		}
	}
}

// P5.3: the device that crashed stays as it was: its fuse, outcomes, ops, what is there and what lasts.
func TestCrashLeavesTheFirst(t *testing.T) {
	d := fresh(t, 8)
	d.Write(1, mixed(1))
	d.Sync()
	d.Write(1, mixed(2))
	d.Write(3, mixed(3))
	d.Outcomes([]byte{2, 1})
	d.Fuse(3)
	before := d.Image()
	for c := range 16 {
		crashed := d.Crash([]byte{byte(c), byte(15 - c)})
		for page := range 8 {
			crashed.Write(page, full(9))
		}
		crashed.Sync()
		crashed.Outcomes([]byte{1, 1})
		crashed.Fuse(0)
		crashed.Sync()
		wantImage(t, "behind Crash", d, before)
		wantPage(t, "what lasts", d.Crash([]byte{0, 0}), 1, mixed(1))
		wantPage(t, "what may be left", d.Crash([]byte{15, 0}), 1, mixed(2))
		wantPage(t, "what may be left", d.Crash(nil), 3, mixed(3))
		wantOps(t, "behind Crash", d, 4)
	}
	wantSays(t, "its first outcome", d.Write(4, full(4)), api.ErrIO)
	wantPage(t, "its first outcome", d, 4, full(4))
	wantSays(t, "its second outcome", d.Write(5, full(5)), api.ErrIO)
	wantPage(t, "its second outcome", d, 5, full(0))
	wantSays(t, "none", d.Write(6, full(6)), api.OK)
	wantSays(t, "its fuse", d.Write(7, full(7)), api.ErrIO)
	if !d.Dead() {
		t.Error("its fuse is gone")
	}
}

// P5.3: a clone has the same pages, now and lasting, Writes, outcomes, fuse, ops, and death.
func TestCloneIsTheSame(t *testing.T) {
	d := fresh(t, 8)
	d.Write(1, mixed(1))
	d.Sync()
	d.Write(1, mixed(2))
	d.Write(3, mixed(3))
	d.Outcomes([]byte{2, 1})
	d.Fuse(3)
	for _, c := range []*device.Device{d.Clone(), d.Clone().Clone(), d} {
		wantImage(t, "the same", c, d.Image())
		wantOps(t, "the same", c, 4)
		wantPage(t, "what lasts", c.Crash([]byte{0, 0}), 1, mixed(1))
		wantPage(t, "its Writes", c.Crash([]byte{3, 15}), 1, torn(mixed(1), mixed(2), 3))
		wantPage(t, "its Writes", c.Crash([]byte{0, 6}), 3, torn(full(0), mixed(3), 6))
		wantSays(t, "its first outcome", c.Sync(), api.ErrIO)
		wantPage(t, "its first outcome", c.Crash([]byte{0, 0}), 3, mixed(3))
		wantNoRead(t, "its second outcome", c, 1, api.ErrIO)
		wantRead(t, "none", c, 1, mixed(2))
		wantSays(t, "its fuse", c.Write(6, full(6)), api.ErrIO)
		if !c.Dead() {
			t.Error("its fuse is gone")
		}
		dead := c.Clone()
		if !dead.Dead() || dead.Ops() != 8 {
			t.Errorf("a dead one's clone: dead %v, %d ops", dead.Dead(), dead.Ops())
		}
		wantNoRead(t, "a dead one's clone", dead, 1, api.ErrIO)
		wantPage(t, "a dead one's clone", dead, 6, full(6))
		wantPage(t, "a dead one's clone", dead.Crash([]byte{8}), 6, torn(full(0), full(6), 8))
	}
}

// P5.3, R4: what is done to a clone is not seen in the first, and the other way round.
func TestCloneIsApart(t *testing.T) {
	setup := func() *device.Device {
		d := fresh(t, 8)
		d.Write(1, mixed(1))
		d.Sync()
		// Lists with room behind them: that is where two that append to one would meet.
		for i := range 5 {
			d.Write(2, mixed(20+i))
		}
		for range 5 {
			d.Outcomes([]byte{0})
		}
		d.Fuse(20)
		return d
	}
	upset := func(d *device.Device, c byte) {
		d.Outcomes([]byte{c, c, c})
		for range 5 {
			d.Write(1, full(c))
		}
		d.Sync()
		d.Write(2, full(c))
		d.Write(6, full(c))
		d.Fuse(0)
		d.Write(5, full(c))
	}
	for _, swap := range []bool{false, true} {
		d := setup()
		c := d.Clone()
		if swap {
			d, c = c, d
		}
		before := d.Image()
		upset(c, 7)
		wantImage(t, "now", d, before)
		wantOps(t, "ops", d, 7)
		wantPage(t, "lasts", d.Crash(make([]byte, 5)), 1, mixed(1))
		wantPage(t, "lasts", d.Crash(make([]byte, 5)), 2, full(0))
		wantPage(t, "its Writes", d.Crash([]byte{0, 0, 15, 0, 0}), 2, mixed(22))
		wantPage(t, "its last Write", d.Crash(nil), 2, mixed(24))
		if d.Dead() {
			t.Error("both are dead")
		}
		// Both append behind the same outcomes and Writes: each has its own.
		d.Outcomes([]byte{1})
		d.Write(3, mixed(30))
		for range 4 {
			wantSays(t, "its outcomes", d.Sync(), api.OK)
		}
		wantSays(t, "its own outcome behind them", d.Sync(), api.ErrIO)
		wantPage(t, "its own Write", d.Crash(nil), 3, mixed(30))
	}
	// Writes of both behind a common row.
	d := setup()
	c := d.Clone()
	d.Write(3, mixed(3))
	c.Write(4, mixed(4))
	wantPage(t, "the first one's Write", d.Crash(nil), 3, mixed(3))
	wantPage(t, "the first one's Write", d.Crash(nil), 4, full(0))
	wantPage(t, "the clone's Write", c.Crash(nil), 3, full(0))
	wantPage(t, "the clone's Write", c.Crash(nil), 4, mixed(4))
}

// P5.4: what lasts and is not written since is found behind any crash, whatever fails, and wherever the device dies.
func TestLastingIsFound(t *testing.T) {
	r := rand.New(rand.NewSource(54))
	for range 400 {
		b := image(8 + r.Intn(8))
		d := loaded(t, b)
		pages := d.Pages()
		for range r.Intn(10) {
			page, w := r.Intn(pages), mixed(r.Int())
			wantSays(t, "Write", d.Write(page, w), api.OK)
			copy(b[page*api.PageSize:], w)
		}
		wantSays(t, "Sync", d.Sync(), api.OK)
		outcomes := make([]byte, r.Intn(20))
		r.Read(outcomes)
		d.Outcomes(outcomes)
		d.Fuse(r.Intn(25) - 3)
		written := make([]bool, pages)
		for range r.Intn(20) {
			switch page := r.Intn(pages); r.Intn(3) {
			case 0:
				d.Read(page)
			default:
				d.Write(page, mixed(r.Int()))
				written[page] = true
			}
		}
		choice := make([]byte, r.Intn(20))
		r.Read(choice)
		c := d.Crash(choice)
		for page, is := range written {
			if !is {
				wantPage(t, "not written since", c, page, b[page*api.PageSize:(page+1)*api.PageSize])
			}
		}
	}
}

// withSpare is a list of n bytes with room in front of and behind it that nobody may write.
func withSpare(n int) (around, b []byte) {
	around = make([]byte, n+64)
	rand.New(rand.NewSource(int64(n))).Read(around)
	return around, around[32 : 32+n]
}

func spoil(b []byte) {
	b = b[:cap(b)]
	for i := range b {
		b[i] ^= 255
	}
}

// R4: what is handed in is not changed, its spare room neither, and not kept.
func TestHandedIn(t *testing.T) {
	hand := func(what string, n int, take func(b []byte), want func()) {
		t.Helper()
		around, b := withSpare(n)
		before := bytes.Clone(around)
		take(b)
		want()
		if !bytes.Equal(around, before) {
			t.Errorf("%s changes what is handed in", what)
		}
		spoil(around)
		want()
		spoil(around)
		if !bytes.Equal(around, before) {
			t.Errorf("%s keeps what is handed in", what)
		}
	}
	_, many := withSpare(8 * api.PageSize)
	many = bytes.Clone(many)
	var d *device.Device
	hand("Load", len(many), func(b []byte) { d = loaded(t, b) }, func() {
		t.Helper()
		wantImage(t, "loaded", d, many)
		wantImage(t, "loaded, lasts", d.Crash(nil), many)
	})
	d.Write(3, full(3))
	d.Sync()
	_, one := withSpare(api.PageSize)
	one = bytes.Clone(one)
	hand("Write", api.PageSize, func(b []byte) { d.Write(2, b) }, func() {
		t.Helper()
		wantRead(t, "written", d, 2, one)
		wantPage(t, "written", d.Crash(nil), 2, one)
		wantPage(t, "written, in part", d.Crash([]byte{6}), 2, torn(many[2*api.PageSize:3*api.PageSize], one, 6))
	})
	d.Sync()
	wantPage(t, "synced", d.Crash(nil), 2, one)
	d.Fuse(0)
	hand("the dying Write", api.PageSize, func(b []byte) { d.Write(4, b) }, func() {
		t.Helper()
		wantPage(t, "written", d, 4, one)
		wantPage(t, "written", d.Crash(nil), 4, one)
	})
	hand("Crash", 4, func(b []byte) { d.Crash(b) }, func() {})
	for _, n := range []int{1, 7, 100} {
		d := fresh(t, 8)
		around, l := withSpare(n)
		before, outcomes := bytes.Clone(around), bytes.Clone(l)
		d.Outcomes(l)
		d.Outcomes([]byte{1, 1})
		if !bytes.Equal(around, before) {
			t.Error("Outcomes changes what is handed in")
		}
		spoil(around)
		for i, c := range append(outcomes, 1, 1, 0) {
			want := []api.Errno{api.OK, api.ErrIO, api.ErrIO}[c%3]
			wantSays(t, fmt.Sprintf("outcome %d of %d", i, n), d.Sync(), want)
		}
	}
}

// R4: what is handed out is new memory, its spare room too: neither the device nor another answer changes by it, nor it by the device.
func TestHandedOut(t *testing.T) {
	b := image(8)
	d := loaded(t, b)
	page := bytes.Clone(b[256:512])
	first, _ := d.Read(1)
	second, _ := d.Read(1)
	whole, again := d.Image(), d.Image()
	spoil(first)
	spoil(whole)
	if !bytes.Equal(second, page) || !bytes.Equal(again, b) {
		t.Error("two answers share memory")
	}
	wantRead(t, "behind it", d, 1, page)
	wantImage(t, "behind it", d, b)
	wantImage(t, "behind it, lasting", d.Crash([]byte{0}), b)
	d.Write(1, full(9))
	d.Sync()
	if !bytes.Equal(second, page) || !bytes.Equal(again, b) {
		t.Error("the device writes into what it handed out")
	}
	crashed := d.Crash(nil)
	spoil(crashed.Image())
	got, _ := crashed.Read(1)
	spoil(got)
	wantPage(t, "the crashed one", crashed, 1, full(9))
	wantPage(t, "the first", d, 1, full(9))
	cloned := d.Clone()
	spoil(cloned.Image())
	got, _ = cloned.Read(1)
	spoil(got)
	wantPage(t, "the cloned one", cloned, 1, full(9))
	wantPage(t, "the first", d, 1, full(9))
}

// R7: of no device, and of one that no call made.
func TestNoDevice(t *testing.T) {
	for name, d := range map[string]*device.Device{"nil": nil, "empty": {}} {
		for range 2 {
			for _, page := range []int{-1, 0, 1, math.MaxInt} {
				wantNoRead(t, name, d, page, api.ErrState)
				wantSays(t, name+" Write", d.Write(page, full(1)), api.ErrState)
				wantSays(t, name+" Write", d.Write(page, nil), api.ErrState)
			}
			wantSays(t, name+" Sync", d.Sync(), api.ErrState)
			if d.Pages() != 0 || d.Ops() != 0 || d.Dead() || len(d.Image()) != 0 {
				t.Errorf("%s: %d pages, %d ops, dead %v, %d bytes", name, d.Pages(), d.Ops(), d.Dead(), len(d.Image()))
			}
			if d.Crash(nil) != nil || d.Crash([]byte{1}) != nil || d.Clone() != nil {
				t.Errorf("%s: Crash or Clone answer a device", name)
			}
			d.Outcomes([]byte{1, 2})
			d.Fuse(0)
		}
	}
}

// model is the chapter again, by another way: what is there now is worked out of what lasts and all Writes behind it.
type model struct {
	lasting  []byte
	writes   []wrote
	outcomes []byte
	fused    bool
	diesAt   int // counted as ops is
	ops      int
	dead     bool
}

type wrote struct {
	page int
	b    []byte
}

func (m *model) left(choice []byte) []byte {
	out := bytes.Clone(m.lasting)
	for k, w := range m.writes {
		chosen := byte(15)
		if k < len(choice) {
			chosen = choice[k]
		}
		at := out[w.page*api.PageSize : (w.page+1)*api.PageSize]
		copy(at, torn(at, w.b, chosen))
	}
	return out
}

// op tells whether it is the dying one, and else the outcome.
func (m *model) op() (bool, byte) {
	m.ops++
	if m.fused && m.ops-1 == m.diesAt {
		m.dead = true
		return true, 0
	}
	var c byte
	if len(m.outcomes) > 0 {
		c, m.outcomes = m.outcomes[0]%3, m.outcomes[1:]
	}
	return false, c
}

func (m *model) read(page int) ([]byte, api.Errno) {
	if page < 0 || page >= len(m.lasting)/api.PageSize {
		return nil, api.ErrArg
	}
	if m.dead {
		return nil, api.ErrIO
	}
	if dying, c := m.op(); dying || c == 1 {
		return nil, api.ErrIO
	}
	return m.left(nil)[page*api.PageSize : (page+1)*api.PageSize], api.OK
}

func (m *model) write(page int, b []byte) api.Errno {
	if page < 0 || page >= len(m.lasting)/api.PageSize || len(b) != api.PageSize {
		return api.ErrArg
	}
	if m.dead {
		return api.ErrIO
	}
	dying, c := m.op()
	if dying || c != 1 {
		m.writes = append(m.writes, wrote{page, bytes.Clone(b)})
	}
	if dying || c != 0 {
		return api.ErrIO
	}
	return api.OK
}

func (m *model) sync() api.Errno {
	if m.dead {
		return api.ErrIO
	}
	dying, c := m.op()
	if !dying && c != 1 {
		m.lasting, m.writes = m.left(nil), nil
	}
	if dying || c != 0 {
		return api.ErrIO
	}
	return api.OK
}

func (m *model) fuse(n int) {
	m.fused, m.diesAt = n >= 0, m.ops+n
}

func (m *model) clone() *model {
	c := *m
	c.writes = append([]wrote(nil), m.writes...)
	c.outcomes = bytes.Clone(m.outcomes)
	return &c
}

type pair struct {
	d *device.Device
	m *model
}

// step does one thing to both, and tells what it was, if they answer differently.
func (p *pair) step(r *rand.Rand) string {
	page := r.Intn(p.d.Pages()+2) - 1
	some := make([]byte, r.Intn(5))
	r.Read(some)
	switch r.Intn(12) {
	case 0, 1:
		b, e := p.d.Read(page)
		wb, we := p.m.read(page)
		if e != we || !bytes.Equal(b, wb) {
			return fmt.Sprintf("Read(%d): %v, want %v", page, e, we)
		}
	case 2, 3, 4, 5, 6:
		b := mixed(r.Intn(1 << 20))
		if r.Intn(10) == 0 {
			b = b[:r.Intn(256)]
		}
		if e, we := p.d.Write(page, b), p.m.write(page, b); e != we {
			return fmt.Sprintf("Write(%d, %d bytes): %v, want %v", page, len(b), e, we)
		}
	case 7:
		if e, we := p.d.Sync(), p.m.sync(); e != we {
			return fmt.Sprintf("Sync: %v, want %v", e, we)
		}
	case 8:
		p.d.Outcomes(some)
		p.m.outcomes = append(p.m.outcomes, some...)
	case 9:
		n := r.Intn(20) - 8
		p.d.Fuse(n)
		if !p.m.dead {
			p.m.fuse(n)
		}
	case 10:
		p.d, p.m = p.d.Clone(), p.m.clone()
	case 11:
		if p.m.dead || r.Intn(5) == 0 {
			p.d, p.m = p.d.Crash(some), &model{lasting: p.m.left(some)}
		}
	}
	return ""
}

// differs tells what can be seen of the one and not of the other.
func (p *pair) differs(r *rand.Rand) string {
	if p.d.Pages() != len(p.m.lasting)/api.PageSize || p.d.Ops() != p.m.ops || p.d.Dead() != p.m.dead {
		return fmt.Sprintf("%d pages, %d ops, dead %v, want %d ops, dead %v", p.d.Pages(), p.d.Ops(), p.d.Dead(), p.m.ops, p.m.dead)
	}
	if !bytes.Equal(p.d.Image(), p.m.left(nil)) {
		return "the image is another"
	}
	choice := make([]byte, r.Intn(len(p.m.writes)+2))
	r.Read(choice)
	if !bytes.Equal(p.d.Crash(choice).Image(), p.m.left(choice)) {
		return fmt.Sprintf("behind a crash of choice %v the image is another", choice)
	}
	return ""
}

// P5.1 to P5.4: long rows of calls, on a device and on clones of it that go on beside it.
func TestAsTheModel(t *testing.T) {
	for seed := range 60 {
		r := rand.New(rand.NewSource(int64(seed)))
		b := image(8 + r.Intn(4))
		all := []*pair{{loaded(t, b), &model{lasting: b}}}
		for i := range 200 {
			p := all[r.Intn(len(all))]
			if len(all) < 4 && r.Intn(20) == 0 {
				all = append(all, &pair{p.d.Clone(), p.m.clone()})
			}
			if what := p.step(r); what != "" {
				t.Fatalf("seed %d, step %d: %s", seed, i, what)
			}
			for _, p := range all {
				if what := p.differs(r); what != "" {
					t.Fatalf("seed %d, step %d: %s", seed, i, what)
				}
			}
		}
	}
}
