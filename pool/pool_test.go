package pool_test

import (
	"bytes"
	"fmt"
	"math"
	"math/rand"
	"slices"
	"testing"

	"escritoire/api"
	"escritoire/device"
	"escritoire/pool"
)

// farPages lie on no device.
var farPages = []int{math.MinInt, math.MinInt + 1, -1 << 32, -4096, -256, -2, -1, 4096, 4097, 1 << 31, 1 << 32, 1 << 56, math.MaxInt - 1, math.MaxInt}

// wrongPages are no page's bytes: the last two have the room for it, or for more, but not the length.
func wrongPages() [][]byte {
	return [][]byte{nil, {}, {1}, make([]byte, api.SectorSize), make([]byte, api.PageSize-1), make([]byte, api.PageSize+1), make([]byte, 2*api.PageSize), make([]byte, api.PageSize-1, api.PageSize), make([]byte, 0, 2*api.PageSize)}
}

// mixed has other bytes for each seed, in no order, so that bytes at a wrong place show.
func mixed(seed int) []byte {
	b := make([]byte, api.PageSize)
	rand.New(rand.NewSource(int64(seed))).Read(b)
	return b
}

// image is of so many pages, no two of them alike: page i is mixed(-1-i), which no test Puts.
func image(pages int) []byte {
	var b []byte
	for i := range pages {
		b = append(b, first(i)...)
	}
	return b
}

// first is what a page of a device is ahead of all writes.
func first(page int) []byte {
	return mixed(-1 - page)
}

// made answers a pool on a device of its own, whose pages are all different.
func made(t *testing.T, pages, frames int) (*device.Device, *pool.Pool) {
	t.Helper()
	d, e := device.Load(image(pages))
	if e != api.OK {
		t.Fatalf("Load of %d pages: %v", pages, e)
	}
	p, e := pool.New(d, frames)
	if e != api.OK || p == nil {
		t.Fatalf("New with %d frames = %v, %v", frames, p, e)
	}
	return d, p
}

// onDevice looks without an op, so that it may be asked of a dead device too.
func onDevice(d *device.Device, page int) []byte {
	return d.Image()[page*api.PageSize : (page+1)*api.PageSize]
}

func wantOnDevice(t *testing.T, what string, d *device.Device, page int, want []byte) {
	t.Helper()
	if got := onDevice(d, page); !bytes.Equal(got, want) {
		t.Errorf("%s: the device's page %d is %v, want %v", what, page, got, want)
	}
}

func wantSays(t *testing.T, what string, got, want api.Errno) {
	t.Helper()
	if got != want {
		t.Errorf("%s: %v, want %v", what, got, want)
	}
}

func wantForget(t *testing.T, what string, p *pool.Pool, page int, want bool) {
	t.Helper()
	if got := p.Forget(page); got != want {
		t.Errorf("%s: Forget(%d) = %v, want %v", what, page, got, want)
	}
}

func wantPin(t *testing.T, what string, p *pool.Pool, page int, want []byte) {
	t.Helper()
	if got, e := p.Pin(page); e != api.OK || !bytes.Equal(got, want) {
		t.Errorf("%s: Pin(%d) = %v, %v, want %v", what, page, got, e, want)
	}
}

func wantNoPin(t *testing.T, what string, p *pool.Pool, page int, want api.Errno) {
	t.Helper()
	if got, e := p.Pin(page); e != want || len(got) != 0 {
		t.Errorf("%s: Pin(%d) = %v, %v, want nothing, %v", what, page, got, e, want)
	}
}

// wantTold is Pin and Unpin at once: the bytes alone are asked for.
func wantTold(t *testing.T, what string, p *pool.Pool, page int, want []byte) {
	t.Helper()
	wantPin(t, what, p, page, want)
	wantSays(t, what+": Unpin", p.Unpin(page), api.OK)
}

// wantHeld asks all that can be asked of a pool without changing it, and how many ops its device has seen.
func wantHeld(t *testing.T, what string, d *device.Device, p *pool.Pool, resident, dirty []int, pinned, ops int) {
	t.Helper()
	if got := p.Resident(); !slices.Equal(got, resident) {
		t.Errorf("%s: resident %v, want %v", what, got, resident)
	}
	if got := p.Dirty(); !slices.Equal(got, dirty) {
		t.Errorf("%s: dirty %v, want %v", what, got, dirty)
	}
	if got := p.Pinned(); got != pinned {
		t.Errorf("%s: %d pinned, want %d", what, got, pinned)
	}
	if got := d.Ops(); got != ops {
		t.Errorf("%s: %d ops, want %d", what, got, ops)
	}
}

// puts Puts pages one behind the other, each with the bytes mixed(page).
func puts(t *testing.T, p *pool.Pool, pages ...int) {
	t.Helper()
	for _, page := range pages {
		wantSays(t, fmt.Sprintf("Put(%d)", page), p.Put(page, mixed(page)), api.OK)
	}
}

// pins Pins pages one behind the other.
func pins(t *testing.T, p *pool.Pool, pages ...int) {
	t.Helper()
	for _, page := range pages {
		if _, e := p.Pin(page); e != api.OK {
			t.Errorf("Pin(%d): %v", page, e)
		}
	}
}

func unpins(t *testing.T, p *pool.Pool, pages ...int) {
	t.Helper()
	for _, page := range pages {
		wantSays(t, fmt.Sprintf("Unpin(%d)", page), p.Unpin(page), api.OK)
	}
}

// reads makes pages resident that are clean and have no pin.
func reads(t *testing.T, p *pool.Pool, pages ...int) {
	t.Helper()
	for _, page := range pages {
		pins(t, p, page)
		unpins(t, p, page)
	}
}

// upTo is from, from+1, .. below to.
func upTo(from, to int) []int {
	var l []int
	for i := from; i < to; i++ {
		l = append(l, i)
	}
	return l
}

// wantLeave lets all pages without a pin leave one by one: the order of their use.
func wantLeave(t *testing.T, what string, p *pool.Pool, want ...int) {
	t.Helper()
	var got []int
	for {
		before := p.Resident()
		wantSays(t, what+": Evict(1)", p.Evict(1), api.OK)
		after := p.Resident()
		if slices.Equal(before, after) {
			break
		}
		for _, page := range before {
			if !slices.Contains(after, page) {
				got = append(got, page)
			}
		}
	}
	if !slices.Equal(got, want) {
		t.Errorf("%s: they leave as %v, want %v", what, got, want)
	}
}

func TestExamples(t *testing.T) {
	d, p := made(t, 16, 8)
	if q, e := pool.New(d, 7); q != nil || e != api.ErrArg {
		t.Errorf("New(d, 7) = %v, %v", q, e)
	}
	puts(t, p, 1, 2, 3, 4, 5, 6, 7, 8)
	wantOnDevice(t, "eight Put", d, 1, first(1))
	puts(t, p, 9)
	wantHeld(t, "the ninth Put", d, p, upTo(2, 10), upTo(2, 10), 0, 1)
	wantOnDevice(t, "the ninth Put", d, 1, mixed(1))
	for page := 2; page < 16; page++ {
		wantOnDevice(t, "the ninth Put", d, page, first(page))
	}
}

// P9.1: New at both bounds, and one past them; no device.
func TestNewBounds(t *testing.T) {
	d, _ := made(t, 8, 8)
	for _, frames := range []int{api.MinFrames, api.MinFrames + 1, 100, api.MaxFrames - 1, api.MaxFrames} {
		p, e := pool.New(d, frames)
		if p == nil || e != api.OK {
			t.Fatalf("New(d, %d) = %v, %v", frames, p, e)
		}
		wantHeld(t, "New", d, p, nil, nil, 0, 0)
		if p, e := pool.New(nil, frames); p != nil || e != api.ErrArg {
			t.Errorf("New(nil, %d) = %v, %v", frames, p, e)
		}
	}
	for _, frames := range []int{math.MinInt, -1 << 32, -api.MinFrames, -1, 0, 1, api.MinFrames - 1, api.MaxFrames + 1, 1 << 32, 1<<32 + 8, math.MaxInt} {
		for _, d := range []*device.Device{d, nil} {
			if p, e := pool.New(d, frames); p != nil || e != api.ErrArg {
				t.Errorf("New with %d frames = %v, %v", frames, p, e)
			}
		}
	}
}

// P9.1: New asks nothing of the device: one that fails or is dead is taken.
func TestNewOnADeadDevice(t *testing.T) {
	d, _ := made(t, 8, 8)
	d.Outcomes([]byte{1})
	if p, e := pool.New(d, 8); p == nil || e != api.OK {
		t.Errorf("New on a failing device = %v, %v", p, e)
	}
	wantSays(t, "its outcome is still there", d.Sync(), api.ErrIO)
	d.Fuse(0)
	d.Sync()
	p, e := pool.New(d, 8)
	if p == nil || e != api.OK {
		t.Fatalf("New on a dead device = %v, %v", p, e)
	}
	wantNoPin(t, "dead", p, 1, api.ErrIO)
	wantSays(t, "Put asks nothing of it", p.Put(1, mixed(1)), api.OK)
	wantPin(t, "what was Put", p, 1, mixed(1))
	wantSays(t, "Flush", p.Flush(), api.ErrIO)
	wantHeld(t, "dead", d, p, []int{1}, []int{1}, 1, 2)
}

// R6: a device that is not nil is taken, also one that has no page.
func TestDeviceWithoutPages(t *testing.T) {
	d := &device.Device{}
	p, e := pool.New(d, 8)
	if p == nil || e != api.OK {
		t.Fatalf("New = %v, %v", p, e)
	}
	for _, page := range append(farPages, 0, 1) {
		wantNoPin(t, "no page", p, page, api.ErrArg)
		wantSays(t, "Put", p.Put(page, mixed(1)), api.ErrArg)
		wantSays(t, "Unpin", p.Unpin(page), api.ErrState)
		wantForget(t, "no page", p, page, false)
	}
	wantSays(t, "Flush", p.Flush(), api.OK)
	wantSays(t, "Evict", p.Evict(3), api.OK)
	wantHeld(t, "no page", d, p, nil, nil, 0, 0)
}

// P9.1: there are just as many frames as were asked for, by Put and by Pin.
func TestAsManyFrames(t *testing.T) {
	for _, frames := range []int{api.MinFrames, 9, 10, 100, api.MaxFrames - 1} {
		pages := frames + 1
		d, p := made(t, pages, frames)
		puts(t, p, upTo(0, frames)...)
		wantHeld(t, "all frames", d, p, upTo(0, frames), upTo(0, frames), 0, 0)
		puts(t, p, frames)
		wantHeld(t, "one more", d, p, upTo(1, pages), upTo(1, pages), 0, 1)

		d, p = made(t, pages, frames)
		pins(t, p, upTo(0, frames)...)
		wantHeld(t, "all pinned", d, p, upTo(0, frames), nil, frames, frames)
		wantNoPin(t, "one more", p, frames, api.ErrFull)
		wantSays(t, "one more", p.Put(frames, mixed(1)), api.ErrFull)
		unpins(t, p, frames-1)
		pins(t, p, frames)
		wantHeld(t, "one for another", d, p, append(upTo(0, frames-1), frames), nil, frames, pages)
	}
	d, p := made(t, api.MaxPages, api.MaxFrames)
	puts(t, p, upTo(0, api.MaxPages)...)
	pins(t, p, upTo(0, api.MaxPages)...)
	wantHeld(t, "all pages", d, p, upTo(0, api.MaxPages), upTo(0, api.MaxPages), api.MaxPages, 0)
}

// P9.1: the page used longest ago leaves; Put and Pin use a page, whether it is resident or not.
func TestUsedLongestAgoLeaves(t *testing.T) {
	_, p := made(t, 32, 8)
	puts(t, p, 7, 3, 20, 0)
	reads(t, p, 31, 5, 11, 9)
	wantLeave(t, "as they came", p, 7, 3, 20, 0, 31, 5, 11, 9)

	d, p := made(t, 32, 8)
	puts(t, p, 7, 3, 20, 0, 31, 5, 11, 9)
	puts(t, p, 3)
	reads(t, p, 7, 9, 0)
	puts(t, p, 31, 31)
	wantHeld(t, "used again", d, p, []int{0, 3, 5, 7, 9, 11, 20, 31}, []int{0, 3, 5, 7, 9, 11, 20, 31}, 0, 0)
	wantLeave(t, "used again", p, 20, 5, 11, 3, 7, 9, 0, 31)

	// Each taken frame is the one of that order's first.
	d, p = made(t, 32, 8)
	reads(t, p, 8, 9, 10, 11, 12, 13, 14, 15)
	reads(t, p, 12, 8)
	reads(t, p, 20)
	wantHeld(t, "9 leaves", d, p, []int{8, 10, 11, 12, 13, 14, 15, 20}, nil, 0, 9)
	puts(t, p, 21)
	wantHeld(t, "10 leaves", d, p, []int{8, 11, 12, 13, 14, 15, 20, 21}, []int{21}, 0, 9)
	wantLeave(t, "the others", p, 11, 13, 14, 15, 12, 8, 20, 21)
}

// P9.1, P9.2: what is no use of a page: Unpin, Forget of another, Flush, an Evict that finds none, questions, calls that are refused.
func TestWhatIsNoUse(t *testing.T) {
	d, p := made(t, 32, 8)
	puts(t, p, 4, 2, 6, 1, 7)
	pins(t, p, 4, 2, 6)
	unpins(t, p, 6, 2, 4)
	reads(t, p, 3)
	wantSays(t, "Flush", p.Flush(), api.OK)
	wantForget(t, "another", p, 7, true)
	wantForget(t, "not resident", p, 20, false)
	p.Resident()
	p.Dirty()
	p.Pinned()
	wantSays(t, "Unpin", p.Unpin(1), api.ErrState)
	wantSays(t, "Put", p.Put(1, mixed(1)[:255]), api.ErrArg)
	wantSays(t, "Evict(0)", p.Evict(0), api.OK)
	d.Outcomes([]byte{1})
	wantNoPin(t, "a read that fails", p, 30, api.ErrIO)
	wantLeave(t, "no use", p, 1, 4, 2, 6, 3)

	d, p = made(t, 32, 8)
	puts(t, p, upTo(0, 8)...)
	pins(t, p, upTo(0, 8)...)
	wantForget(t, "pinned", p, 0, false)
	wantSays(t, "Evict", p.Evict(3), api.OK)
	wantNoPin(t, "full", p, 9, api.ErrFull)
	wantSays(t, "full", p.Put(9, mixed(9)), api.ErrFull)
	unpins(t, p, 7, 6, 5, 4, 3, 2, 1, 0)
	d.Outcomes([]byte{1, 2, 1, 2, 1})
	wantNoPin(t, "a write that fails", p, 9, api.ErrIO)
	wantSays(t, "a write that fails", p.Put(9, mixed(9)), api.ErrIO)
	wantSays(t, "a write that fails", p.Evict(1), api.ErrIO)
	wantSays(t, "a write that fails", p.Evict(9), api.ErrIO)
	wantSays(t, "a write that fails", p.Flush(), api.ErrIO)
	wantHeld(t, "all failed", d, p, upTo(0, 8), upTo(0, 8), 0, 5)
	wantLeave(t, "no use", p, upTo(0, 8)...)
}

// P9.1: a page with a pin does not leave, however long ago it was used; without it, it does.
func TestPinnedStays(t *testing.T) {
	for pinned := range 8 {
		d, p := made(t, 32, 8)
		puts(t, p, upTo(0, 8)...)
		for page := range pinned {
			pins(t, p, page)
		}
		// Used behind the pinned ones: those are the oldest all the same.
		puts(t, p, upTo(pinned, 8)...)
		wantSays(t, "Put", p.Put(20, mixed(20)), api.OK)
		want := slices.Delete(upTo(0, 8), pinned, pinned+1)
		want = append(want, 20)
		wantHeld(t, fmt.Sprintf("%d pinned", pinned), d, p, want, want, pinned, 1)
		wantOnDevice(t, "the one that leaves", d, pinned, mixed(pinned))
		unpins(t, p, upTo(0, pinned)...)
		wantLeave(t, "without pins", p, want...)
	}
}

// P9.1: who leaves is written only if it is dirty, and ahead of the read.
func TestDirtyLeaverIsWritten(t *testing.T) {
	for _, again := range []bool{false, true} {
		d, p := made(t, 32, 8)
		reads(t, p, upTo(0, 8)...)
		if again {
			puts(t, p, 0)
			reads(t, p, upTo(1, 8)...)
		}
		d.Fuse(1)
		_, e := p.Pin(20)
		if again {
			// The write goes well, and the read is the op at which the device dies.
			wantSays(t, "dirty", e, api.ErrIO)
			wantHeld(t, "dirty", d, p, upTo(1, 8), nil, 0, 10)
			wantOnDevice(t, "dirty", d, 0, mixed(0))
		} else {
			wantSays(t, "clean", e, api.OK)
			wantHeld(t, "clean", d, p, append(upTo(1, 8), 20), nil, 1, 9)
			if d.Dead() {
				t.Error("clean: more than the read")
			}
			wantOnDevice(t, "clean", d, 0, first(0))
		}
	}
	// Clean again behind a Flush: nothing is written.
	d, p := made(t, 32, 8)
	puts(t, p, upTo(0, 8)...)
	wantSays(t, "Flush", p.Flush(), api.OK)
	wantSays(t, "Write", d.Write(0, mixed(100)), api.OK)
	puts(t, p, 8)
	wantHeld(t, "flushed", d, p, upTo(1, 9), []int{8}, 0, 9)
	wantOnDevice(t, "flushed", d, 0, mixed(100))
}

// failing are the ways in which the write behind so many ops may fail, and whether it is done all the same.
var failing = []struct {
	name  string
	upset func(d *device.Device, ahead int)
	done  bool
}{
	{"not done", func(d *device.Device, ahead int) { d.Outcomes(append(make([]byte, ahead), 1)) }, false},
	{"done", func(d *device.Device, ahead int) { d.Outcomes(append(make([]byte, ahead), 2)) }, true},
	{"dying", func(d *device.Device, ahead int) { d.Fuse(ahead) }, true},
}

// P9.1: if the write of who leaves fails, that is the answer, and it stays, dirty as it was; no other one leaves for it.
func TestLeaverThatIsNotWritten(t *testing.T) {
	for name, call := range map[string]func(p *pool.Pool) api.Errno{
		"Pin": func(p *pool.Pool) api.Errno {
			b, e := p.Pin(20)
			if len(b) != 0 {
				return api.OK
			}
			return e
		},
		"Put":   func(p *pool.Pool) api.Errno { return p.Put(20, mixed(20)) },
		"Evict": func(p *pool.Pool) api.Errno { return p.Evict(1) },
		"all":   func(p *pool.Pool) api.Errno { return p.Evict(99) },
	} {
		for _, f := range failing {
			what := name + ", " + f.name
			d, p := made(t, 32, 8)
			puts(t, p, 5)
			pins(t, p, 5)
			puts(t, p, 6, 0, 1)
			reads(t, p, 2, 3, 4, 7)
			f.upset(d, 0)
			wantSays(t, what, call(p), api.ErrIO)
			wantHeld(t, what, d, p, upTo(0, 8), []int{0, 1, 5, 6}, 1, 5)
			if f.done {
				wantOnDevice(t, what, d, 6, mixed(6))
			} else {
				wantOnDevice(t, what, d, 6, first(6))
			}
			wantOnDevice(t, what, d, 0, first(0))
			if d.Dead() {
				// Nor does a dead device: it says so without an op.
				wantSays(t, what+", dead", call(p), api.ErrIO)
				wantHeld(t, what+", dead", d, p, upTo(0, 8), []int{0, 1, 5, 6}, 1, 5)
				wantPin(t, what+", what was Put", p, 6, mixed(6))
				continue
			}
			puts(t, p, 20)
			wantHeld(t, what+", again", d, p, []int{0, 1, 2, 3, 4, 5, 7, 20}, []int{0, 1, 5, 20}, 1, 6)
			wantOnDevice(t, what+", again", d, 6, mixed(6))
			unpins(t, p, 5)
			wantLeave(t, what, p, 5, 0, 1, 2, 3, 4, 7, 20)
		}
	}
}

// P9.1: a leaver that is clean needs no device: it leaves a dead one too.
func TestCleanLeaverOfADeadDevice(t *testing.T) {
	d, p := made(t, 32, 8)
	reads(t, p, upTo(0, 8)...)
	d.Fuse(0)
	d.Sync()
	wantSays(t, "Put", p.Put(20, mixed(20)), api.OK)
	wantHeld(t, "Put", d, p, append(upTo(1, 8), 20), []int{20}, 0, 9)
	wantSays(t, "Evict", p.Evict(3), api.OK)
	wantHeld(t, "Evict", d, p, append(upTo(4, 8), 20), []int{20}, 0, 9)
	wantSays(t, "Evict of all", p.Evict(9), api.ErrIO)
	wantHeld(t, "Evict of all", d, p, []int{20}, []int{20}, 0, 9)
	wantForget(t, "dead", p, 20, true)
	wantHeld(t, "Forget", d, p, nil, nil, 0, 9)
}

// P9.1, P9.2: with all frames pinned: ErrFull, for what is not resident alone; nothing is asked of the device.
func TestAllPinned(t *testing.T) {
	for _, frames := range []int{8, 9, 20} {
		d, p := made(t, 32, frames)
		puts(t, p, upTo(0, 3)...)
		pins(t, p, upTo(0, frames)...)
		ops := frames - 3
		for range 3 {
			for _, page := range []int{frames, 31} {
				wantNoPin(t, "full", p, page, api.ErrFull)
				wantSays(t, "full", p.Put(page, mixed(1)), api.ErrFull)
			}
		}
		wantHeld(t, "full", d, p, upTo(0, frames), upTo(0, 3), frames, ops)
		puts(t, p, frames-1)
		wantPin(t, "a resident one", p, frames-1, mixed(frames-1))
		wantHeld(t, "a resident one", d, p, upTo(0, frames), append(upTo(0, 3), frames-1), frames, ops)
		unpins(t, p, frames-1)
		wantNoPin(t, "it still has a pin", p, 31, api.ErrFull)
		unpins(t, p, frames-1)
		wantPin(t, "it has none", p, 31, first(31))
		wantHeld(t, "it has none", d, p, append(upTo(0, frames-1), 31), upTo(0, 3), frames, ops+2)
		wantOnDevice(t, "who left", d, frames-1, mixed(frames-1))
	}
}

// P9.2: Pin at the first page, at the last one, and past both ends.
func TestPinPages(t *testing.T) {
	for _, pages := range []int{api.MinPages, 9, 64, api.MaxPages} {
		d, p := made(t, pages, 8)
		for i, page := range []int{0, pages - 1, 3} {
			wantPin(t, "Pin", p, page, first(page))
			if d.Ops() != i+1 || p.Pinned() != i+1 {
				t.Errorf("page %d of %d: %d ops, %d pinned", page, pages, d.Ops(), p.Pinned())
			}
		}
		held := []int{0, 3, pages - 1}
		for _, page := range append(farPages, pages, pages+1) {
			if page == pages || page < 0 || page > pages {
				wantNoPin(t, fmt.Sprintf("of %d pages", pages), p, page, api.ErrArg)
				wantSays(t, fmt.Sprintf("Put(%d) of %d pages", page, pages), p.Put(page, mixed(1)), api.ErrArg)
			}
		}
		wantHeld(t, "no such page", d, p, held, nil, 3, 3)
	}
}

// P9.2: a page that is resident is not read again.
func TestPinReadsOnce(t *testing.T) {
	d, p := made(t, 16, 8)
	wantPin(t, "first", p, 4, first(4))
	wantSays(t, "Write", d.Write(4, mixed(4)), api.OK)
	wantPin(t, "pinned", p, 4, first(4))
	unpins(t, p, 4, 4)
	wantPin(t, "resident", p, 4, first(4))
	wantHeld(t, "resident", d, p, []int{4}, nil, 1, 2)
	d.Fuse(0)
	d.Sync()
	wantPin(t, "of a dead device", p, 4, first(4))
	wantNoPin(t, "not resident, of a dead device", p, 5, api.ErrIO)
	wantHeld(t, "of a dead device", d, p, []int{4}, nil, 1, 3)
}

// P9.2, P9.4: behind its leaving a page is what the device tells.
func TestReadAnew(t *testing.T) {
	d, p := made(t, 16, 8)
	for i, leave := range []func(){
		func() { p.Evict(1) },
		func() { p.Forget(4) },
		func() { reads(t, p, upTo(5, 13)...); p.Evict(8) },
	} {
		wantTold(t, "as it is", p, 4, onDevice(d, 4))
		wantSays(t, "Write", d.Write(4, mixed(i)), api.OK)
		leave()
		wantTold(t, "read anew", p, 4, mixed(i))
	}
}

// P9.2: a read that fails is the answer, and nothing is resident by it; where a frame is free nothing else changes.
func TestReadThatFails(t *testing.T) {
	for name, upset := range map[string]func(d *device.Device){
		"outcome 1": func(d *device.Device) { d.Outcomes([]byte{1}) },
		"outcome 4": func(d *device.Device) { d.Outcomes([]byte{4}) },
		"dying":     func(d *device.Device) { d.Fuse(0) },
	} {
		d, p := made(t, 16, 8)
		puts(t, p, 1, 2)
		pins(t, p, 2)
		upset(d)
		wantNoPin(t, name, p, 5, api.ErrIO)
		wantHeld(t, name, d, p, []int{1, 2}, []int{1, 2}, 1, 1)
		wantSays(t, name+": Unpin", p.Unpin(5), api.ErrState)
		wantForget(t, name, p, 5, false)
		if d.Dead() {
			wantNoPin(t, name+", dead", p, 5, api.ErrIO)
			wantHeld(t, name+", dead", d, p, []int{1, 2}, []int{1, 2}, 1, 1)
			continue
		}
		wantPin(t, name+", then", p, 5, first(5))
		wantHeld(t, name+", then", d, p, []int{1, 2, 5}, []int{1, 2}, 2, 2)
	}
	// The outcome that lets a write lie does nothing to a read.
	d, p := made(t, 16, 8)
	d.Outcomes([]byte{2})
	wantPin(t, "outcome 2", p, 5, first(5))
	wantHeld(t, "outcome 2", d, p, []int{5}, nil, 1, 1)
}

// P9.2: if the read fails behind a frame that was taken, who left is gone, and the frame is free.
func TestReadThatFailsBehindAFrame(t *testing.T) {
	for _, dirty := range []bool{false, true} {
		for _, dies := range []bool{false, true} {
			what := fmt.Sprintf("dirty %v, dies %v", dirty, dies)
			d, p := made(t, 32, 8)
			reads(t, p, 0)
			writes := 0
			if dirty {
				puts(t, p, 0)
				writes = 1
			}
			reads(t, p, upTo(1, 8)...)
			if dies {
				d.Fuse(writes)
			} else {
				d.Outcomes(append(make([]byte, writes), 1))
			}
			wantNoPin(t, what, p, 20, api.ErrIO)
			wantHeld(t, what, d, p, upTo(1, 8), nil, 0, 9+writes)
			if dirty {
				wantOnDevice(t, what, d, 0, mixed(0))
			} else {
				wantOnDevice(t, what, d, 0, first(0))
			}
			puts(t, p, 21)
			wantHeld(t, what+", the free frame", d, p, append(upTo(1, 8), 21), []int{21}, 0, 9+writes)
			if !dies {
				wantPin(t, what+", then", p, 20, first(20))
				wantHeld(t, what+", then", d, p, []int{2, 3, 4, 5, 6, 7, 20, 21}, []int{21}, 1, 10+writes)
			}
		}
	}
}

// P9.2: each Pin is one pin more, each Unpin one less; one more Unpin is refused. Pinned counts pages, not pins.
func TestSeveralPins(t *testing.T) {
	for n := 1; n <= 40; n++ {
		d, p := made(t, 16, 8)
		reads(t, p, 2)
		for range n {
			wantPin(t, "Pin", p, 3, first(3))
		}
		for i := range n {
			wantHeld(t, fmt.Sprintf("%d of %d pins", n-i, n), d, p, []int{2, 3}, nil, 1, 2)
			wantForget(t, "with a pin", p, 3, false)
			wantSays(t, "Unpin", p.Unpin(3), api.OK)
		}
		wantHeld(t, "no pin", d, p, []int{2, 3}, nil, 0, 2)
		for range 3 {
			wantSays(t, "one Unpin more", p.Unpin(3), api.ErrState)
		}
		wantPin(t, "pins are not owed", p, 3, first(3))
		wantHeld(t, "one pin", d, p, []int{2, 3}, nil, 1, 2)
		wantSays(t, "Unpin", p.Unpin(3), api.OK)
		wantForget(t, "without a pin", p, 3, true)
	}
}

// P9.2: Unpin of what has no pin, is not resident, is no page.
func TestUnpinRefused(t *testing.T) {
	d, p := made(t, 16, 8)
	puts(t, p, 1, 2)
	pins(t, p, 2)
	for _, page := range append(farPages, 0, 1, 3, 15, 16) {
		wantSays(t, fmt.Sprintf("Unpin(%d)", page), p.Unpin(page), api.ErrState)
	}
	wantHeld(t, "refused", d, p, []int{1, 2}, []int{1, 2}, 1, 0)
	wantSays(t, "Unpin", p.Unpin(2), api.OK)
	// What left had its pins with it.
	pins(t, p, 3, 3)
	unpins(t, p, 3, 3)
	wantForget(t, "3", p, 3, true)
	wantSays(t, "Unpin of what was forgotten", p.Unpin(3), api.ErrState)
	wantSays(t, "Evict", p.Evict(9), api.OK)
	wantSays(t, "Unpin of what was evicted", p.Unpin(2), api.ErrState)
}

// P9.2: Put reads nothing, and what it takes is dirty, told, and not yet on the device; pins stay.
func TestPut(t *testing.T) {
	d, p := made(t, 16, 8)
	for i, page := range []int{0, 15, 7} {
		wantSays(t, "Put", p.Put(page, mixed(page)), api.OK)
		if l := p.Resident(); len(l) != i+1 || d.Ops() != 0 {
			t.Errorf("Put(%d): resident %v, %d ops", page, l, d.Ops())
		}
		wantOnDevice(t, "Put", d, page, first(page))
		wantTold(t, "Put", p, page, mixed(page))
	}
	wantHeld(t, "Put", d, p, []int{0, 7, 15}, []int{0, 7, 15}, 0, 0)
	wantSays(t, "Put again", p.Put(7, mixed(70)), api.OK)
	wantTold(t, "Put again", p, 7, mixed(70))
	pins(t, p, 3, 3)
	wantHeld(t, "pinned", d, p, []int{0, 3, 7, 15}, []int{0, 7, 15}, 1, 1)
	wantSays(t, "Put of a pinned one", p.Put(3, mixed(3)), api.OK)
	wantHeld(t, "Put of a pinned one", d, p, []int{0, 3, 7, 15}, []int{0, 3, 7, 15}, 1, 1)
	wantPin(t, "Put of a pinned one", p, 3, mixed(3))
	unpins(t, p, 3, 3, 3)
	wantSays(t, "a fourth Unpin", p.Unpin(3), api.ErrState)
	// The same bytes as on the device are dirty too.
	wantSays(t, "Put", p.Put(4, first(4)), api.OK)
	wantHeld(t, "the same bytes", d, p, []int{0, 3, 4, 7, 15}, []int{0, 3, 4, 7, 15}, 0, 1)
}

// P9.2, R3: b that is no page, of a page that is resident or not: nothing changes.
func TestPutRefused(t *testing.T) {
	d, p := made(t, 16, 8)
	puts(t, p, 1)
	reads(t, p, upTo(2, 9)...)
	for _, page := range append(farPages, 0, 1, 2, 15, 16) {
		for _, b := range wrongPages() {
			wantSays(t, fmt.Sprintf("Put(%d, %d bytes)", page, len(b)), p.Put(page, b), api.ErrArg)
		}
	}
	wantHeld(t, "refused", d, p, upTo(1, 9), []int{1}, 0, 7)
	wantLeave(t, "refused", p, upTo(1, 9)...)
	wantOnDevice(t, "refused", d, 1, mixed(1))
	wantOnDevice(t, "refused", d, 2, first(2))
}

// R6: what is no page is told ahead of frames that are full, and of a device that fails or is dead; no pins are told ahead of the device.
func TestOrderOfErrors(t *testing.T) {
	d, p := made(t, 16, 8)
	puts(t, p, upTo(0, 8)...)
	pins(t, p, upTo(0, 8)...)
	d.Fuse(0)
	check := func(what string, other api.Errno) {
		t.Helper()
		for _, page := range []int{-1, 16, 17, math.MinInt, math.MaxInt} {
			wantNoPin(t, what, p, page, api.ErrArg)
			wantSays(t, what, p.Put(page, mixed(1)), api.ErrArg)
		}
		for _, b := range wrongPages() {
			wantSays(t, what, p.Put(9, b), api.ErrArg)
			wantSays(t, what, p.Put(1, b), api.ErrArg)
		}
		wantNoPin(t, what, p, 9, other)
		wantSays(t, what, p.Put(9, mixed(9)), other)
		wantSays(t, what, p.Unpin(9), api.ErrState)
	}
	check("full, about to die", api.ErrFull)
	if d.Dead() || d.Ops() != 0 {
		t.Errorf("dead %v, %d ops", d.Dead(), d.Ops())
	}
	wantSays(t, "Flush", p.Flush(), api.ErrIO)
	check("full, dead", api.ErrFull)
	unpins(t, p, 4)
	check("dead", api.ErrIO)
	wantHeld(t, "dead", d, p, upTo(0, 8), upTo(0, 8), 7, 1)
}

// P9.2: Forget of what is dirty, clean, pinned, not resident, no page.
func TestForget(t *testing.T) {
	d, p := made(t, 16, 8)
	puts(t, p, 1, 2, 3)
	reads(t, p, 4, 5)
	pins(t, p, 2, 5)
	for _, page := range append(farPages, 0, 2, 5, 6, 15, 16) {
		wantForget(t, "refused", p, page, false)
	}
	wantHeld(t, "refused", d, p, upTo(1, 6), upTo(1, 4), 2, 2)
	wantForget(t, "dirty", p, 1, true)
	wantHeld(t, "dirty", d, p, upTo(2, 6), upTo(2, 4), 2, 2)
	wantOnDevice(t, "dirty", d, 1, first(1))
	wantForget(t, "clean", p, 4, true)
	wantForget(t, "gone", p, 1, false)
	wantForget(t, "gone", p, 4, false)
	wantHeld(t, "clean", d, p, []int{2, 3, 5}, []int{2, 3}, 2, 2)
	wantTold(t, "what was Put is lost", p, 1, first(1))
	wantHeld(t, "read anew", d, p, []int{1, 2, 3, 5}, []int{2, 3}, 2, 3)
	unpins(t, p, 2)
	wantForget(t, "unpinned", p, 2, true)
	wantLeave(t, "the others", p, 3, 1)
	wantSays(t, "Flush", p.Flush(), api.OK)
	wantOnDevice(t, "forgotten", d, 2, first(2))
	wantOnDevice(t, "evicted", d, 3, mixed(3))
}

// P9.2: Forget sets a frame free: no page leaves for the next one.
func TestForgetSetsFree(t *testing.T) {
	for gone := range 8 {
		d, p := made(t, 16, 8)
		puts(t, p, upTo(0, 8)...)
		wantForget(t, "one", p, gone, true)
		puts(t, p, 9)
		want := append(slices.Delete(upTo(0, 8), gone, gone+1), 9)
		wantHeld(t, "another for it", d, p, want, want, 0, 0)
		wantLeave(t, "the order of the others", p, want...)
	}
}

// P9.3: Flush of none, of one, of several; pinned ones too; clean ones not; who is resident stays.
func TestFlush(t *testing.T) {
	d, p := made(t, 16, 8)
	wantSays(t, "none resident", p.Flush(), api.OK)
	reads(t, p, 3, 9)
	wantSays(t, "none dirty", p.Flush(), api.OK)
	wantHeld(t, "none dirty", d, p, []int{3, 9}, nil, 0, 2)
	puts(t, p, 3)
	wantSays(t, "one", p.Flush(), api.OK)
	wantHeld(t, "one", d, p, []int{3, 9}, nil, 0, 3)
	wantOnDevice(t, "one", d, 3, mixed(3))
	wantSays(t, "again", p.Flush(), api.OK)
	wantHeld(t, "again", d, p, []int{3, 9}, nil, 0, 3)
	puts(t, p, 15, 0, 9, 12)
	pins(t, p, 0, 12, 3)
	wantSays(t, "several", p.Flush(), api.OK)
	wantHeld(t, "several", d, p, []int{0, 3, 9, 12, 15}, nil, 3, 7)
	for _, page := range []int{15, 0, 9, 12} {
		wantOnDevice(t, "several", d, page, mixed(page))
		wantTold(t, "several", p, page, mixed(page))
	}
	wantOnDevice(t, "not dirty", d, 4, first(4))
	// Written, not synced.
	wantOnDevice(t, "behind a crash", d.Crash(make([]byte, 5)), 15, first(15))
	wantOnDevice(t, "behind a crash", d.Crash(nil), 15, mixed(15))
}

// P9.3: Flush writes by rising numbers, in whatever order the pages were Put: the k-th Write is told by the k-th byte of a crash's choice.
func TestFlushRises(t *testing.T) {
	r := rand.New(rand.NewSource(93))
	for range 50 {
		frames := 8 + r.Intn(8)
		d, p := made(t, 40, frames)
		pages := r.Perm(40)[:1+r.Intn(frames)]
		puts(t, p, pages...)
		wantSays(t, "Flush", p.Flush(), api.OK)
		slices.Sort(pages)
		for k, page := range pages {
			choice := make([]byte, len(pages))
			choice[k] = 15
			want := image(40)
			copy(want[page*api.PageSize:], mixed(page))
			if !bytes.Equal(d.Crash(choice).Image(), want) {
				t.Errorf("of %v write %d is not of page %d", pages, k, page)
			}
		}
	}
}

// P9.3: a write that fails in the midst of Flush ends it: the pages ahead of it are clean, it and those behind it as they were.
func TestFlushThatFails(t *testing.T) {
	pages := []int{1, 4, 5, 9, 12}
	for _, f := range failing {
		for k, bad := range pages {
			what := fmt.Sprintf("%s, page %d", f.name, bad)
			d, p := made(t, 16, 8)
			puts(t, p, 9, 1, 12, 5, 4)
			pins(t, p, 5, 1)
			f.upset(d, k)
			wantSays(t, what, p.Flush(), api.ErrIO)
			wantHeld(t, what, d, p, pages, pages[k:], 2, k+1)
			for i, page := range pages {
				if i < k || i == k && f.done {
					wantOnDevice(t, what, d, page, mixed(page))
				} else {
					wantOnDevice(t, what, d, page, first(page))
				}
			}
			if d.Dead() {
				wantSays(t, what+", dead", p.Flush(), api.ErrIO)
				wantHeld(t, what+", dead", d, p, pages, pages[k:], 2, k+1)
				continue
			}
			wantSays(t, what+", again", p.Flush(), api.OK)
			wantHeld(t, what+", again", d, p, pages, nil, 2, 6)
			unpins(t, p, 1, 5)
			wantLeave(t, what, p, 9, 12, 4, 5, 1)
		}
	}
}

// P9.3: a dead device ends a Flush only if there is something to write.
func TestFlushOfNoneOnADeadDevice(t *testing.T) {
	d, p := made(t, 16, 8)
	reads(t, p, 1)
	d.Fuse(0)
	d.Sync()
	wantSays(t, "none dirty", p.Flush(), api.OK)
	puts(t, p, 2)
	wantSays(t, "one dirty", p.Flush(), api.ErrIO)
	wantForget(t, "it", p, 2, true)
	wantSays(t, "none dirty", p.Flush(), api.OK)
}

// P9.3: Evict with n below 1, 1, up to and beyond what may leave.
func TestEvict(t *testing.T) {
	for _, n := range []int{math.MinInt, math.MinInt + 1, -1 << 32, -8, -1, 0, 1, 2, 3, 4, 5, 6, 7, 8, 9, 99, 1 << 32, math.MaxInt} {
		for _, pinned := range []int{0, 1, 3, 8} {
			what := fmt.Sprintf("Evict(%d), %d pinned", n, pinned)
			d, p := made(t, 32, 8)
			order := []int{20, 3, 11, 7, 0, 31, 16, 5}
			puts(t, p, order...)
			pins(t, p, order[:pinned]...)
			gone := max(0, min(n, 8-pinned))
			wantSays(t, what, p.Evict(n), api.OK)
			left := slices.Concat(order[:pinned], order[pinned+gone:])
			slices.Sort(left)
			wantHeld(t, what, d, p, left, left, pinned, gone)
			for i, page := range order {
				if pinned <= i && i < pinned+gone {
					wantOnDevice(t, what, d, page, mixed(page))
				} else {
					wantOnDevice(t, what, d, page, first(page))
				}
			}
		}
	}
	_, p := made(t, 8, 8)
	for _, n := range []int{math.MinInt, -1, 0, 1, math.MaxInt} {
		wantSays(t, "none resident", p.Evict(n), api.OK)
	}
}

// P9.3: pages with pins stand among those that leave; only the dirty ones of these are written, in the order of their use.
func TestEvictAmongPins(t *testing.T) {
	d, p := made(t, 32, 8)
	puts(t, p, 9)
	pins(t, p, 4)
	reads(t, p, 8, 2)
	puts(t, p, 6)
	pins(t, p, 6, 6, 1)
	puts(t, p, 5, 3)
	wantHeld(t, "all", d, p, []int{1, 2, 3, 4, 5, 6, 8, 9}, []int{3, 5, 6, 9}, 3, 4)
	wantSays(t, "two", p.Evict(2), api.OK)
	wantHeld(t, "two", d, p, []int{1, 2, 3, 4, 5, 6}, []int{3, 5, 6}, 3, 5)
	wantSays(t, "two more", p.Evict(2), api.OK)
	wantHeld(t, "two more", d, p, []int{1, 3, 4, 6}, []int{3, 6}, 3, 6)
	wantSays(t, "the rest", p.Evict(99), api.OK)
	wantHeld(t, "the rest", d, p, []int{1, 4, 6}, []int{6}, 3, 7)
	wantOnDevice(t, "pinned", d, 6, first(6))
	for k, page := range []int{9, 5, 3} {
		choice := make([]byte, 3)
		choice[k] = 15
		wantOnDevice(t, "its write", d.Crash(choice), page, mixed(page))
	}
	unpins(t, p, 6, 1, 4)
	wantSays(t, "a page with a second pin", p.Evict(99), api.OK)
	wantHeld(t, "a page with a second pin", d, p, []int{6}, []int{6}, 1, 7)
}

// P9.3: a write that fails in the midst of Evict ends it: the pages ahead of it are gone, it and those behind it as they were.
func TestEvictThatFails(t *testing.T) {
	order := []int{9, 1, 12, 5, 4}
	for _, f := range failing {
		for k, bad := range order {
			for _, n := range []int{k + 1, 5, math.MaxInt} {
				what := fmt.Sprintf("%s, page %d, Evict(%d)", f.name, bad, n)
				d, p := made(t, 16, 8)
				pins(t, p, 0)
				puts(t, p, order...)
				f.upset(d, k)
				left := slices.Sorted(slices.Values(order[k:]))
				wantSays(t, what, p.Evict(n), api.ErrIO)
				wantHeld(t, what, d, p, append([]int{0}, left...), left, 1, k+2)
				for i, page := range order {
					if i < k || i == k && f.done {
						wantOnDevice(t, what, d, page, mixed(page))
					} else {
						wantOnDevice(t, what, d, page, first(page))
					}
				}
				if !d.Dead() {
					wantLeave(t, what, p, order[k:]...)
				}
			}
		}
	}
}

// R7: of no pool, and of one that New did not make.
func TestNoPool(t *testing.T) {
	for name, p := range map[string]*pool.Pool{"nil": nil, "empty": {}} {
		for range 2 {
			for _, page := range append(farPages, 0, 1) {
				wantNoPin(t, name, p, page, api.ErrState)
				wantSays(t, name+" Unpin", p.Unpin(page), api.ErrState)
				wantSays(t, name+" Put", p.Put(page, mixed(1)), api.ErrState)
				wantSays(t, name+" Put", p.Put(page, nil), api.ErrState)
				wantForget(t, name, p, page, false)
				wantSays(t, name+" Evict", p.Evict(page), api.ErrState)
			}
			wantSays(t, name+" Flush", p.Flush(), api.ErrState)
			if len(p.Resident()) != 0 || len(p.Dirty()) != 0 || p.Pinned() != 0 {
				t.Errorf("%s: resident %v, dirty %v, %d pinned", name, p.Resident(), p.Dirty(), p.Pinned())
			}
		}
	}
}

// R5: two pools on one device have nothing but the device in common.
func TestTwoPools(t *testing.T) {
	d, p := made(t, 16, 8)
	q, _ := pool.New(d, 9)
	puts(t, p, 1, 2)
	pins(t, p, 2)
	wantHeld(t, "the other", d, q, nil, nil, 0, 0)
	wantPin(t, "the other", q, 1, first(1))
	wantSays(t, "Flush", p.Flush(), api.OK)
	wantPin(t, "the other, resident", q, 1, first(1))
	wantPin(t, "the other, not resident", q, 2, mixed(2))
	wantHeld(t, "the first", d, p, []int{1, 2}, nil, 1, 4)
	wantHeld(t, "the other", d, q, []int{1, 2}, nil, 2, 4)
}

func spoil(b []byte) {
	b = b[:cap(b)]
	for i := range b {
		b[i] ^= 255
	}
}

// R4: what is handed in is not changed, its spare room neither, and not kept.
func TestHandedIn(t *testing.T) {
	d, p := made(t, 16, 8)
	for _, resident := range []bool{false, true} {
		around := append(mixed(50), append(mixed(51), mixed(52)...)...)
		before := bytes.Clone(around)
		b := around[api.PageSize : 2*api.PageSize]
		if resident {
			reads(t, p, 2)
		}
		wantSays(t, "Put", p.Put(2, b), api.OK)
		wantTold(t, "Put", p, 2, mixed(51))
		if !bytes.Equal(around, before) {
			t.Error("Put changes what is handed in")
		}
		spoil(around)
		spoiled := bytes.Clone(around)
		wantTold(t, "what was handed in has changed", p, 2, mixed(51))
		wantSays(t, "Put", p.Put(2, mixed(53)), api.OK)
		if !bytes.Equal(around, spoiled) {
			t.Error("Put keeps what is handed in")
		}
		spoil(around)
		wantSays(t, "Put", p.Put(2, b), api.OK)
		spoil(around)
		wantSays(t, "Flush", p.Flush(), api.OK)
		wantOnDevice(t, "flushed", d, 2, mixed(51))
		wantForget(t, "Put", p, 2, true)
		wantSays(t, "Write", d.Write(2, first(2)), api.OK)
	}
}

// R4: what is handed out is new memory, its spare room too: neither the pool, the device nor another answer changes by it, nor it by them.
func TestHandedOut(t *testing.T) {
	d, p := made(t, 16, 8)
	for _, page := range []int{3, 4} {
		want := first(3)
		if page == 4 {
			puts(t, p, 4)
			want = mixed(4)
		}
		one, _ := p.Pin(page)
		two, _ := p.Pin(page)
		spoil(one)
		if !bytes.Equal(two, want) {
			t.Errorf("page %d: two answers share memory", page)
		}
		wantPin(t, "an answer was spoiled", p, page, want)
		wantSays(t, "Put", p.Put(page, mixed(60)), api.OK)
		wantSays(t, "Flush", p.Flush(), api.OK)
		if !bytes.Equal(two, want) {
			t.Errorf("page %d: the pool writes into what it handed out", page)
		}
		wantOnDevice(t, "an answer was spoiled", d, page, mixed(60))
	}
	puts(t, p, 3, 4, 9)
	for name, list := range map[string]func() []int{"Resident": p.Resident, "Dirty": p.Dirty} {
		one, two := list(), list()
		for i := range one[:cap(one)] {
			one[:cap(one)][i] = -7
		}
		if !slices.Equal(two, []int{3, 4, 9}) || !slices.Equal(list(), []int{3, 4, 9}) {
			t.Errorf("%s: an answer was spoiled: %v, %v", name, two, list())
		}
		wantForget(t, name, p, 9, true)
		if !slices.Equal(two, []int{3, 4, 9}) {
			t.Errorf("%s: the pool writes into what it handed out", name)
		}
		puts(t, p, 9)
	}
}

// P9.4: never more pages than frames; what was Put is what Pin tells, whoever leaves between; after Flush it is on the device.
func TestWhatFollows(t *testing.T) {
	for seed := range 40 {
		r := rand.New(rand.NewSource(int64(seed)))
		pages, frames := 8+r.Intn(60), 8+r.Intn(12)
		d, p := made(t, pages, frames)
		now := map[int][]byte{}
		for page := range pages {
			now[page] = first(page)
		}
		for range 400 {
			page := r.Intn(pages)
			switch r.Intn(6) {
			case 0, 1:
				b := mixed(r.Int())
				wantSays(t, "Put", p.Put(page, b), api.OK)
				now[page] = b
			case 2, 3:
				wantTold(t, "Pin", p, page, now[page])
			case 4:
				wantSays(t, "Evict", p.Evict(r.Intn(4)), api.OK)
			case 5:
				if p.Forget(page) {
					now[page] = bytes.Clone(onDevice(d, page))
				}
			}
			if n := len(p.Resident()); n > frames {
				t.Fatalf("seed %d: %d pages in %d frames", seed, n, frames)
			}
			if r.Intn(20) == 0 {
				wantSays(t, "Flush", p.Flush(), api.OK)
				for page := range pages {
					wantOnDevice(t, "flushed", d, page, now[page])
				}
			}
		}
	}
}

// P9.4: what was Put is told also behind writes that fail, till they go well.
func TestWhatFollowsOfFailing(t *testing.T) {
	for seed := range 40 {
		r := rand.New(rand.NewSource(int64(seed)))
		d, p := made(t, 24, 8)
		now := map[int][]byte{}
		for page := range 24 {
			now[page] = first(page)
		}
		for range 400 {
			page := r.Intn(24)
			if r.Intn(3) == 0 {
				d.Outcomes([]byte{byte(r.Intn(256))})
			}
			switch r.Intn(6) {
			case 0, 1, 2:
				b := mixed(r.Int())
				if p.Put(page, b) == api.OK {
					now[page] = b
				}
			case 3, 4:
				if b, e := p.Pin(page); e == api.OK {
					if !bytes.Equal(b, now[page]) {
						t.Fatalf("seed %d: Pin(%d) tells other bytes", seed, page)
					}
					wantSays(t, "Unpin", p.Unpin(page), api.OK)
				}
			case 5:
				p.Evict(r.Intn(9))
			}
			if n := len(p.Resident()); n > 8 {
				t.Fatalf("seed %d: %d pages", seed, n)
			}
		}
		// Each try takes an outcome or more, and there are no more than steps.
		for tries := 0; p.Flush() != api.OK && tries < 400; tries++ {
		}
		for page := range 24 {
			wantOnDevice(t, "flushed", d, page, now[page])
		}
	}
}

// model is the chapter again, by another way: each page has the time of its last use, and errors are handed back. It works on a device of its own, to which the same is done.
type model struct {
	d      *device.Device
	frames int
	clock  int
	pages  map[int]entry
}

type entry struct {
	b     string
	dirty bool
	pins  int
	time  int
}

// oldest answers the page that may leave next; -1: none.
func (m *model) oldest() int {
	out := -1
	for page, x := range m.pages {
		if x.pins == 0 && (out < 0 || x.time < m.pages[out].time) {
			out = page
		}
	}
	return out
}

func (m *model) out(page int) api.Errno {
	if x := m.pages[page]; x.dirty {
		if e := m.d.Write(page, []byte(x.b)); e != api.OK {
			return e
		}
	}
	delete(m.pages, page)
	return api.OK
}

func (m *model) take() api.Errno {
	if len(m.pages) < m.frames {
		return api.OK
	}
	page := m.oldest()
	if page < 0 {
		return api.ErrFull
	}
	return m.out(page)
}

func (m *model) pin(page int) (string, api.Errno) {
	if page < 0 || page >= m.d.Pages() {
		return "", api.ErrArg
	}
	x, in := m.pages[page]
	if !in {
		if e := m.take(); e != api.OK {
			return "", e
		}
		b, e := m.d.Read(page)
		if e != api.OK {
			return "", e
		}
		x.b = string(b)
	}
	m.clock++
	x.time = m.clock
	x.pins++
	m.pages[page] = x
	return x.b, api.OK
}

func (m *model) unpin(page int) api.Errno {
	x := m.pages[page]
	if x.pins == 0 {
		return api.ErrState
	}
	x.pins--
	m.pages[page] = x
	return api.OK
}

func (m *model) put(page int, b []byte) api.Errno {
	if page < 0 || page >= m.d.Pages() || len(b) != api.PageSize {
		return api.ErrArg
	}
	x, in := m.pages[page]
	if !in {
		if e := m.take(); e != api.OK {
			return e
		}
	}
	m.clock++
	m.pages[page] = entry{b: string(b), dirty: true, pins: x.pins, time: m.clock}
	return api.OK
}

func (m *model) forget(page int) bool {
	x, in := m.pages[page]
	if !in || x.pins > 0 {
		return false
	}
	delete(m.pages, page)
	return true
}

func (m *model) flush() api.Errno {
	for page := range m.d.Pages() {
		x, in := m.pages[page]
		if !in || !x.dirty {
			continue
		}
		if e := m.d.Write(page, []byte(x.b)); e != api.OK {
			return e
		}
		x.dirty = false
		m.pages[page] = x
	}
	return api.OK
}

func (m *model) evict(n int) api.Errno {
	for ; n >= 1; n-- {
		page := m.oldest()
		if page < 0 {
			break
		}
		if e := m.out(page); e != api.OK {
			return e
		}
	}
	return api.OK
}

// lists tells who is resident, who dirty, how many have a pin.
func (m *model) lists() (resident, dirty []int, pinned int) {
	for page := range m.d.Pages() {
		x, in := m.pages[page]
		if in {
			resident = append(resident, page)
		}
		if x.dirty {
			dirty = append(dirty, page)
		}
		if x.pins > 0 {
			pinned++
		}
	}
	return resident, dirty, pinned
}

// pair is a pool and its model; held has a page for each pin, so that the rows of calls give pins back.
type pair struct {
	d    *device.Device
	p    *pool.Pool
	m    *model
	held []int
}

// step does one thing to both, and tells what it was, and whether they answer alike.
func (x *pair) step(r *rand.Rand) (string, bool) {
	page := r.Intn(x.d.Pages()+2) - 1
	switch r.Intn(16) {
	case 0, 1, 2:
		b, e := x.p.Pin(page)
		wb, we := x.m.pin(page)
		if e == api.OK {
			x.held = append(x.held, page)
		}
		return fmt.Sprintf("Pin(%d): %v, want %v", page, e, we), e == we && string(b) == wb
	case 3, 4, 5:
		if len(x.held) > 0 && r.Intn(8) > 0 {
			i := r.Intn(len(x.held))
			page = x.held[i]
			x.held = slices.Delete(x.held, i, i+1)
		} else {
			x.held = slices.DeleteFunc(x.held, func(h int) bool { return h == page })
			for x.p.Unpin(page) == api.OK && x.m.unpin(page) == api.OK {
			}
		}
		e, we := x.p.Unpin(page), x.m.unpin(page)
		return fmt.Sprintf("Unpin(%d): %v, want %v", page, e, we), e == we
	case 6, 7, 8, 9:
		b := mixed(r.Intn(1 << 20))
		if r.Intn(10) == 0 {
			b = b[:r.Intn(256)]
		}
		e, we := x.p.Put(page, b), x.m.put(page, b)
		return fmt.Sprintf("Put(%d, %d bytes): %v, want %v", page, len(b), e, we), e == we
	case 10:
		ok, want := x.p.Forget(page), x.m.forget(page)
		return fmt.Sprintf("Forget(%d): %v, want %v", page, ok, want), ok == want
	case 11:
		if r.Intn(3) > 0 {
			return "nothing", true
		}
		e, we := x.p.Flush(), x.m.flush()
		return fmt.Sprintf("Flush: %v, want %v", e, we), e == we
	case 12:
		n := r.Intn(6) - 1
		if r.Intn(8) == 0 {
			n = math.MaxInt
		}
		e, we := x.p.Evict(n), x.m.evict(n)
		return fmt.Sprintf("Evict(%d): %v, want %v", n, e, we), e == we
	}
	return "the device is upset", x.upset(r, page)
}

// upset does something to both devices behind the pool's back: outcomes, a fuse, a write.
func (x *pair) upset(r *rand.Rand, page int) bool {
	switch some := []byte{byte(r.Intn(256)), byte(r.Intn(256))}[:r.Intn(3)]; r.Intn(12) {
	case 0:
		n := r.Intn(200) - 20
		x.d.Fuse(n)
		x.m.d.Fuse(n)
	case 1, 2:
		b := mixed(r.Intn(1 << 20))
		return x.d.Write(page, b) == x.m.d.Write(page, b)
	case 3:
		return x.d.Sync() == x.m.d.Sync()
	case 4, 5, 6:
		x.d.Outcomes(some)
		x.m.d.Outcomes(some)
	}
	return true
}

// differs tells what can be seen of the one and not of the other.
func (x *pair) differs() string {
	resident, dirty, pinned := x.m.lists()
	if !slices.Equal(x.p.Resident(), resident) || !slices.Equal(x.p.Dirty(), dirty) || x.p.Pinned() != pinned {
		return fmt.Sprintf("resident %v, dirty %v, %d pinned, want %v, %v, %d", x.p.Resident(), x.p.Dirty(), x.p.Pinned(), resident, dirty, pinned)
	}
	if x.d.Ops() != x.m.d.Ops() || x.d.Dead() != x.m.d.Dead() {
		return fmt.Sprintf("%d ops, dead %v, want %d, %v", x.d.Ops(), x.d.Dead(), x.m.d.Ops(), x.m.d.Dead())
	}
	if !bytes.Equal(x.d.Image(), x.m.d.Image()) {
		return "the device's pages are others"
	}
	return ""
}

// P9.1 to P9.4: long rows of calls, with as few frames as may be and with more, on devices that fail and die.
func TestAsTheModel(t *testing.T) {
	for seed := range 150 {
		r := rand.New(rand.NewSource(int64(seed)))
		pages, frames := 8+r.Intn(24), 8
		if seed%2 == 1 {
			frames += r.Intn(12)
		}
		d, p := made(t, pages, frames)
		x := &pair{d: d, p: p, m: &model{d: d.Clone(), frames: frames, pages: map[int]entry{}}}
		for i := range 500 {
			if what, alike := x.step(r); !alike {
				t.Fatalf("seed %d, step %d: %s", seed, i, what)
			}
			if what := x.differs(); what != "" {
				t.Fatalf("seed %d, step %d: %s", seed, i, what)
			}
		}
		choice := make([]byte, r.Intn(60))
		r.Read(choice)
		if !bytes.Equal(x.d.Crash(choice).Image(), x.m.d.Crash(choice).Image()) {
			t.Fatalf("seed %d: behind a crash the pages are others", seed)
		}
	}
}
