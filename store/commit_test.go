package store_test

import (
	"bytes"
	"fmt"
	"math"
	"math/rand"
	"slices"
	"strings"
	"testing"

	"escritoire/api"
	"escritoire/audit"
	"escritoire/device"
	"escritoire/store"
)

// P13.3: texts and states of none, one and several pages, one behind the other: each is found on the device, nothing leaks, and Gen and place go on.
func TestCommits(t *testing.T) {
	for _, pages := range []int{64, 1953, 4096} {
		s := formatted(t, pages, 8)
		k := deskOf(t, s)
		texts := []int{0, 1, 20, 21, 100, 0, 399, 400, 5}
		states := []int{0, 1, 244, 245, 2000, 0, 488, 489, 7, 0, 0}
		for i := range 2 * len(states) * len(texts) / 3 {
			what := fmt.Sprintf("%d pages, commit %d", pages, i)
			text := bytes.ReplaceAll(mixed(i, texts[i%len(texts)]), []byte{7}, []byte{10})
			state := mixed(-i, states[i%len(states)])
			wantSays(t, what, k.set(text), api.OK)
			wantSays(t, what, s.Commit(k.n, state), api.OK)
			wantWhole(t, what, s, version{string(text), string(state)})
			n := s.Super()
			if n.Gen != i+2 || n.Pages != pages || n.Root != k.n.Root || n.Height != k.n.Height || n.Bytes != k.n.Bytes || n.Lines != k.n.Lines {
				t.Fatalf("%s: %+v of %+v", what, n, k.n)
			}
			if !bytes.Equal(pageOf(s.Device(), (i+1)%2), block(n)) {
				t.Fatalf("%s: place %d does not have the superblock", what, (i+1)%2)
			}
			if !bytes.Equal(lasting(s.Device()), s.Device().Image()) {
				t.Fatalf("%s: it was not synced", what)
			}
			wantBytes(t, what, s, n.State, state)
		}
	}
}

// P13.3: of n its Root, Height, Bytes and Lines are taken, and nothing else.
func TestOtherNumbers(t *testing.T) {
	for _, n := range []api.Super{
		{Gen: 77}, {Gen: -1}, {Gen: math.MaxInt}, {Gen: 1 << 60}, {Pages: 8}, {Pages: -3}, {Pages: math.MaxInt},
		{State: 9}, {State: 1}, {State: -1}, {State: 99}, {Free: 9}, {Free: 1}, {Free: math.MinInt},
		{Gen: 5, Pages: 4096, State: 4000, Free: 3000},
	} {
		s := formatted(t, 16, 8)
		wantSays(t, fmt.Sprintf("%+v", n), s.Commit(n, nil), api.OK)
		wantSuper(t, fmt.Sprintf("%+v", n), s, api.Super{Gen: 2, Pages: 16, Free: 3})
	}
	s := formatted(t, 16, 8)
	tree := api.Super{Gen: 9, Pages: 4096, Root: 15, Height: 32, Bytes: api.MaxText, Lines: api.MaxText, State: -7, Free: 1 << 40}
	wantSays(t, "a tree", s.Commit(tree, []byte("abc")), api.OK)
	wantSuper(t, "a tree", s, api.Super{Gen: 2, Pages: 16, Root: 15, Height: 32, Bytes: api.MaxText, Lines: api.MaxText, State: 3, Free: 4})
}

// wantRefused: R3: a Commit that is refused leaves the store, the device and the point as they are.
func wantRefused(t *testing.T, what string, s *store.Store, n api.Super, state []byte, want api.Errno) {
	t.Helper()
	d := s.Device()
	image, ops, free, super, resident := d.Image(), d.Ops(), s.Free(), s.Super(), s.Resident()
	var own []int
	for page := range d.Pages() {
		if s.Own(page) {
			own = append(own, page)
		}
	}
	wantSays(t, what, s.Commit(n, state), want)
	wantFree(t, what, s, free)
	wantOwn(t, what, s, own...)
	wantSuper(t, what, s, super)
	if d.Ops() != ops || !bytes.Equal(d.Image(), image) || s.Resident() != resident {
		t.Fatalf("%s: it did something: %d ops, %d resident", what, d.Ops()-ops, s.Resident()-resident)
	}
}

// treeless are trees that may not be on a device of 16 pages.
var treeless = []api.Super{
	{Root: 1, Height: 1, Bytes: 1}, {Root: 16, Height: 1, Bytes: 1}, {Root: -1, Height: 1, Bytes: 1}, {Root: math.MaxInt, Height: 1, Bytes: 1},
	{Root: 5}, {Root: 5, Height: 1}, {Root: 5, Bytes: 1}, {Height: 1}, {Bytes: 1}, {Height: 1, Bytes: 1},
	{Root: 5, Height: 33, Bytes: 1}, {Root: 5, Height: -1, Bytes: 1},
	{Root: 5, Height: 1, Bytes: api.MaxText + 1}, {Root: 5, Height: 1, Bytes: -1},
	{Root: 5, Height: 1, Bytes: 3, Lines: 4}, {Root: 5, Height: 1, Bytes: 3, Lines: -1}, {Lines: 1},
}

// P13.3: ErrArg, ErrLong, ErrFull, in this order, and ahead of anything that is done on the device.
func TestRefusedCommits(t *testing.T) {
	s := formatted(t, 16, 8)
	wantAlloc(t, "own ones", s, 3, 4)
	long, vast := make([]byte, api.MaxBlob), make([]byte, api.MaxBlob+1)
	for range 2 {
		for _, n := range treeless {
			for _, state := range [][]byte{nil, []byte("a"), long, vast} {
				wantRefused(t, fmt.Sprintf("%+v, a state of %d", n, len(state)), s, n, state, api.ErrArg)
			}
		}
		wantRefused(t, "a state of one too many", s, api.Super{}, vast, api.ErrLong)
		wantRefused(t, "a state of MaxBlob", s, api.Super{}, long, api.ErrFull)
		wantRefused(t, "a state of one page too many", s, api.Super{}, make([]byte, 11*room), api.ErrFull)
		wantRefused(t, "a state of one byte too many", s, api.Super{}, make([]byte, 10*room+1), api.ErrFull)
		// The device would fail, too, if it were asked.
		s.Device().Outcomes([]byte{1})
		wantRefused(t, "a device that fails", s, treeless[0], nil, api.ErrArg)
		wantRefused(t, "a device that fails", s, api.Super{}, vast, api.ErrLong)
		wantRefused(t, "a device that fails", s, api.Super{}, long, api.ErrFull)
		wantSays(t, "the device's error is the last", s.Commit(api.Super{}, make([]byte, 10*room)), api.ErrIO)
		s.Mark()
	}
	wantBack(t, "the point", s, true)
	wantSays(t, "a state that has just room", s.Commit(api.Super{}, make([]byte, 10*room)), api.OK)
	wantFree(t, "a state that had just room", s, 1)
	wantSuper(t, "a state that had just room", s, api.Super{Gen: 2, Pages: 16, State: 5, Free: 15})
	wantAlloc(t, "what the old free map had", s, 2)
	wantNoAlloc(t, "all others are used", s)
}

// P13.3: a great device has room for a great state: at each count of free pages just what fits is taken.
func TestRoomForChains(t *testing.T) {
	for _, pages := range []int{8, 9, 1953, 4096} {
		links := mapNeed(pages)
		for _, spare := range []int{0, 1, 2, 3, 4, 5, 100} {
			what := fmt.Sprintf("%d pages, %d of them left", pages, spare)
			s := formatted(t, pages, 8)
			if s.Free() < spare {
				continue
			}
			for s.Free() > spare {
				s.Alloc()
			}
			most := (spare - links) * room
			if most < 0 {
				wantRefused(t, what, s, api.Super{}, nil, api.ErrFull)
				continue
			}
			wantRefused(t, what, s, api.Super{}, make([]byte, most+1), api.ErrFull)
			state := mixed(spare, most)
			wantSays(t, what, s.Commit(api.Super{}, state), api.OK)
			wantFree(t, what, s, links)
			wantBytes(t, what, s, s.Super().State, state)
		}
	}
	s := formatted(t, 4096, 8)
	state := mixed(1, (4094-3-3)*room)
	wantRefused(t, "one too many", s, api.Super{}, make([]byte, len(state)+1), api.ErrFull)
	commit(t, s, state)
	wantWhole(t, "the greatest state", s, version{"", string(state)})
}

// P13.3, P13.4: what stood at the point is no room for chains, as the commit may fail and Back be called.
func TestRoomAtThePoint(t *testing.T) {
	s := formatted(t, 12, 8)
	d := s.Device()
	for i := range 6 {
		write(t, s, sheet(i))
	}
	s.Mark()
	for page := 3; page < 9; page++ {
		wantSays(t, "Drop", s.Drop(page), api.OK)
	}
	wantFree(t, "dropped", s, 9)
	wantRefused(t, "room for three, not for nine", s, api.Super{}, make([]byte, 2*room+1), api.ErrFull)
	d.Outcomes([]byte{0, 0, 0, 0, 0, 0, 0, 0, 0, 1})
	wantSays(t, "Sync fails", s.Commit(api.Super{}, make([]byte, 2*room)), api.ErrIO)
	wantFree(t, "Sync failed", s, 9)
	wantAlloc(t, "Sync failed", s, 9)
	wantBack(t, "Sync failed", s, true)
	wantOwn(t, "Back", s, 3, 4, 5, 6, 7, 8)
	for i := range 6 {
		wantRead(t, "Back", s, 3+i, sheet(i))
		wantSays(t, "Drop", s.Drop(3+i), api.OK)
	}
	state := mixed(1, 2*room)
	commit(t, s, state)
	wantWhole(t, "what was dropped is free", s, version{"", string(state)})
	wantSuper(t, "what was dropped is free", s, api.Super{Gen: 2, Pages: 12, State: 9, Free: 11})
	wantAlloc(t, "what was dropped is free", s, 2, 3, 4, 5, 6, 7, 8)
}

// P13.3: what a Commit does on the device, op by op: all that is dirty, by rising numbers, Sync, the superblock at the other place, Sync.
func TestCommitsOrder(t *testing.T) {
	for commits := range 4 {
		var n api.Super
		var wrote []int
		got := trace(t, func() (*device.Device, func()) {
			s := formatted(t, 40, 40)
			for i := range commits {
				commit(t, s, mixed(i, 250))
			}
			k := deskOf(t, s)
			wantSays(t, "set", k.set(mixed(9, 50)), api.OK)
			return s.Device(), func() {
				if s.Commit(k.n, mixed(10, 600)) == api.OK {
					n = s.Super()
					_, state := chainOf(s.Device().Image(), n.State)
					_, free := chainOf(s.Device().Image(), n.Free)
					wrote = slices.Concat(k.on, state, free)
				}
			}
		})
		slices.Sort(wrote)
		var want []string
		for _, page := range wrote {
			want = append(want, fmt.Sprint("write ", page))
		}
		want = append(want, "sync", fmt.Sprint("write ", (commits+1)%2), "sync")
		if n.Gen != commits+2 || !slices.Equal(got, want) {
			t.Errorf("behind %d commits: %q, want %q", commits, got, want)
		}
	}
}

// P13.3: with few frames pages leave on the way, but all of them are written ahead of the first Sync, each once.
func TestCommitsOrderWithFewFrames(t *testing.T) {
	got := trace(t, func() (*device.Device, func()) {
		s := formatted(t, 64, 8)
		for i := range 6 {
			write(t, s, sheet(i))
		}
		return s.Device(), func() { s.Commit(api.Super{}, mixed(1, 30*room)) }
	})
	end := len(got) - 3
	if !slices.Equal(got[end:], []string{"sync", "write 1", "sync"}) {
		t.Errorf("its end is %q", got[end:])
	}
	var want []string
	for page := 3; page < 3+6+30+1; page++ {
		want = append(want, fmt.Sprint("write ", page))
	}
	slices.Sort(want)
	slices.Sort(got[:end])
	if !slices.Equal(got[:end], want) {
		t.Errorf("%q, want %q", got[:end], want)
	}
}

// P13.3: pages that a Commit wrote are clean: the next one does not write them again.
func TestCommitWritesOnce(t *testing.T) {
	s := formatted(t, 40, 40)
	for i := range 5 {
		write(t, s, sheet(i))
	}
	for i, want := range []int{5 + 2 + 3, 2 + 3, 2 + 3} {
		before := s.Device().Ops()
		commit(t, s, []byte{1})
		if got := s.Device().Ops() - before; got != want {
			t.Errorf("commit %d: %d ops, want %d", i, got, want)
		}
	}
}

// scene is a store behind a commit, with pages of all four states, and a point if asked for.
type scene struct {
	s            *store.Store
	used, given  int // used at the commit, the second one dropped since
	older, newer int // taken since, the second one behind the point
	held         int // taken ahead of the point and dropped behind it
	free         int
	ops          int // of its next Commit, if all goes well
	writes       int // those ahead of the superblock's
}

func play(t *testing.T, point bool) scene {
	t.Helper()
	s := formatted(t, 40, 40)
	c := scene{s: s}
	c.used, c.given = write(t, s, sheet(1)), write(t, s, sheet(2))
	commit(t, s, mixed(1, 250))
	wantSays(t, "Drop", s.Drop(c.given), api.OK)
	c.older, c.held = write(t, s, sheet(3)), write(t, s, sheet(4))
	if point {
		s.Mark()
	}
	c.newer = write(t, s, sheet(5))
	wantSays(t, "Drop", s.Drop(c.held), api.OK)
	// Two pages of the first commit's own, the free map, two pages of the state: 2 are superblocks', 2 own.
	c.free = 40 - 2 - 2 - 3 - 2
	wantFree(t, "the scene", s, c.free)
	c.writes = 3 + 2 + 1
	if !point {
		// The page that was dropped is the first that is taken for a chain, and is dirty once.
		c.writes--
	}
	c.ops = c.writes + 3
	return c
}

// commit is the scene's next one.
func (c scene) commit() api.Errno {
	return c.s.Commit(api.Super{}, c.state())
}

func (c scene) state() []byte {
	return mixed(2, 260)
}

// P13.3: how many ops there are in all, so that the tests that let each of them fail let all of them fail.
func TestSceneDone(t *testing.T) {
	for _, point := range []bool{false, true} {
		c := play(t, point)
		before := c.s.Device().Ops()
		wantSays(t, "Commit", c.commit(), api.OK)
		if got := c.s.Device().Ops() - before; got != c.ops {
			t.Errorf("%d ops, want %d", got, c.ops)
		}
		wantBack(t, "done", c.s, false)
		wantOwn(t, "done", c.s)
		// used, older and newer are used still; given and held are free, and so are the three pages of the old chains.
		wantFree(t, "done", c.s, 40-2-3-3)
		if n := c.s.Super(); n.Gen != 3 {
			t.Errorf("%+v", n)
		}
		wantBytes(t, "done", c.s, c.s.Super().State, c.state())
		for page, want := range map[int][]byte{c.used: sheet(1), c.older: sheet(3), c.newer: sheet(5)} {
			if got := pageOf(c.s.Device(), page); !bytes.Equal(got, want) {
				t.Errorf("page %d on the device is %v", page, got)
			}
		}
	}
}

// wantAhead: P13.3: behind a Commit that failed ahead of its superblock all is as it was.
func (c scene) wantAhead(t *testing.T, what string, point bool, sure api.Super) {
	t.Helper()
	s := c.s
	wantSuper(t, what, s, sure)
	wantOwn(t, what, s, c.older, c.newer)
	wantFree(t, what, s, c.free)
	for page, want := range map[int][]byte{c.used: sheet(1), c.given: sheet(2), c.older: sheet(3), c.newer: sheet(5)} {
		wantRead(t, what, s, page, want)
	}
	wantSays(t, what+": Drop of a pending one", s.Drop(c.given), api.ErrState)
	wantSays(t, what+": Drop of a dropped one", s.Drop(c.held), api.ErrState)
	wantBytes(t, what, s, sure.State, mixed(1, 250))
	wantSays(t, what+": Write of an own one", s.Write(c.newer, sheet(5)), api.OK)
	if !point {
		wantBack(t, what, s, false)
		return
	}
	wantBack(t, what, s, true)
	wantOwn(t, what+": Back", s, c.older, c.held)
	wantFree(t, what+": Back", s, c.free)
	wantRead(t, what+": Back", s, c.older, sheet(3))
	wantRead(t, what+": Back", s, c.held, sheet(4))
	wantSays(t, what+": Drop", s.Drop(c.held), api.OK)
	wantAlloc(t, what+": Alloc", s, c.newer)
	wantSays(t, what+": Write", s.Write(c.newer, sheet(5)), api.OK)
}

// wantDoubt: P13.3: behind a Commit that failed at its superblock or behind it what was own is used, and what it took for its chains is not free either.
func (c scene) wantDoubt(t *testing.T, what string, sure api.Super) {
	t.Helper()
	s := c.s
	wantSuper(t, what, s, sure)
	wantOwn(t, what, s)
	wantFree(t, what, s, c.free-3)
	for page, want := range map[int][]byte{c.used: sheet(1), c.given: sheet(2), c.older: sheet(3), c.newer: sheet(5)} {
		wantRead(t, what, s, page, want)
	}
	wantBack(t, what, s, false)
	for _, page := range []int{c.used, c.older, c.newer} {
		wantSays(t, what+": Write of a used one", s.Write(page, sheet(9)), api.ErrState)
	}
	wantSays(t, what+": Drop of a pending one", s.Drop(c.given), api.ErrState)
	if e := s.Drop(c.held); e != api.ErrState {
		t.Fatalf("%s: Drop of a dropped one, or of a chain's page: %v", what, e)
	}
	wantBytes(t, what, s, sure.State, mixed(1, 250))
}

// P13.3, P13.4: each op of a Commit fails, done or not done; then another one is done.
func TestCommitFails(t *testing.T) {
	for _, point := range []bool{false, true} {
		for op := range 9 {
			for _, outcome := range []byte{1, 2} {
				what := fmt.Sprintf("point %v, op %d is %d", point, op, outcome)
				c := play(t, point)
				if op >= c.ops {
					continue
				}
				s, d := c.s, c.s.Device()
				sure := s.Super()
				before := d.Ops()
				d.Outcomes(append(make([]byte, op), outcome))
				wantSays(t, what, c.commit(), api.ErrIO)
				if d.Ops() != before+op+1 {
					t.Fatalf("%s: %d ops", what, d.Ops()-before)
				}
				begun := op > c.writes
				if begun {
					c.wantDoubt(t, what, sure)
				} else {
					c.wantAhead(t, what, point, sure)
				}
				wantSays(t, what+": the next one", c.commit(), api.OK)
				gen := 3
				if begun {
					gen = 4
				}
				if n := s.Super(); n.Gen != gen {
					t.Fatalf("%s: the next one is %+v, want gen %d", what, n, gen)
				}
				if !bytes.Equal(pageOf(d, 0), block(s.Super())) || !bytes.Equal(pageOf(d, 1), block(sure)) {
					t.Fatalf("%s: the next one does not stand where the last sure one does not", what)
				}
				// Nothing leaks by the one that failed.
				wantFree(t, what+": the next one", s, 40-2-3-3)
				wantBytes(t, what+": the next one", s, s.Super().State, c.state())
			}
		}
	}
}

// R3: a Commit that fails ahead of its superblock leaves no frames behind in which its chains stand, and which the next one would write.
func TestFailedChainsAreForgotten(t *testing.T) {
	s := formatted(t, 40, 40)
	for i := range 3 {
		write(t, s, sheet(i))
	}
	d := s.Device()
	// The own pages and ten of the chains are written, then one of them fails.
	d.Outcomes(append(make([]byte, 13), 1))
	wantSays(t, "Commit", s.Commit(api.Super{}, mixed(1, 20*room)), api.ErrIO)
	if s.Resident() != 3 {
		t.Errorf("%d resident, want the three own ones", s.Resident())
	}
	before := d.Ops()
	commit(t, s, nil)
	if got := d.Ops() - before; got != 1+3 {
		t.Errorf("the next one has %d ops, want those of the free map's page, of Sync, the superblock and Sync", got)
	}
}

// P13.3: the Gen and the place behind many commits of which some fail.
func TestGens(t *testing.T) {
	s := formatted(t, 40, 8)
	d := s.Device()
	gen, place := 1, 0
	r := rand.New(rand.NewSource(1))
	for i := range 300 {
		what := fmt.Sprint("commit ", i)
		state := []byte(what)
		// The ops are: a page of each chain, Sync, the superblock, Sync.
		op, outcome := r.Intn(8), byte(1+r.Intn(2))
		if op < 5 {
			d.Outcomes(append(make([]byte, op), outcome))
		}
		other := pageOf(d, 1-place)
		e := s.Commit(api.Super{}, state)
		if (e == api.ErrIO) != (op < 5) || e != api.OK && e != api.ErrIO {
			t.Fatalf("%s: %v, op %d fails", what, e, op)
		}
		now := pageOf(d, 1-place)
		if op < 3 && !bytes.Equal(now, other) {
			t.Fatalf("%s: its superblock was written ahead of its time", what)
		}
		if op >= 3 {
			gen++
			if want := op > 3 || outcome == 2; hasGen(now, gen) != want {
				t.Fatalf("%s, op %d is %d: that gen %d stands at place %d is %v", what, op, outcome, gen, 1-place, !want)
			}
		}
		if op >= 5 {
			place = 1 - place
			if s.Super().Gen != gen {
				t.Fatalf("%s: gen %d, want %d", what, s.Super().Gen, gen)
			}
			wantWhole(t, what, s, version{"", string(state)})
		}
		if !bytes.Equal(pageOf(d, place), block(s.Super())) {
			t.Fatalf("%s: the sure one is not at place %d", what, place)
		}
	}
	// Opened anew it goes on behind the last that is there.
	o := opened(t, d.Crash(nil), 8)
	last := o.Super().Gen
	commit(t, o, nil)
	if o.Super().Gen != last+1 {
		t.Errorf("gen %d behind %d", o.Super().Gen, last)
	}
}

// hasGen tells whether a page is as a superblock of a Gen, as far as that goes.
func hasGen(page []byte, gen int) bool {
	return bytes.Equal(page[8:16], block(api.Super{Gen: gen})[8:16])
}

// aged is a device whose superblock has a Gen.
func aged(t *testing.T, gen int) *device.Device {
	t.Helper()
	d := formatted(t, 40, 8).Device()
	d.Write(0, block(api.Super{Gen: gen, Pages: 40, Free: 2}))
	d.Sync()
	return d
}

// P13.3: there is no Gen behind 2^60: when it was tried each Commit is ErrArg, be it done or not.
func TestLastGen(t *testing.T) {
	const last = 1 << 60
	s := opened(t, aged(t, last), 8)
	for range 3 {
		wantRefused(t, "opened at the last", s, api.Super{}, nil, api.ErrArg)
	}
	wantRefused(t, "ErrArg comes first", s, api.Super{}, make([]byte, api.MaxBlob+1), api.ErrArg)

	s = opened(t, aged(t, last-2), 8)
	for gen := last - 1; gen <= last; gen++ {
		commit(t, s, nil)
		if s.Super().Gen != gen {
			t.Fatalf("gen %d, want %d", s.Super().Gen, gen)
		}
	}
	for range 3 {
		wantRefused(t, "the last was done", s, api.Super{}, nil, api.ErrArg)
	}
	if got := opened(t, s.Device().Crash(nil), 8).Super().Gen; got != last {
		t.Errorf("opened anew: gen %d", got)
	}

	// The ops are: the free map's page, Sync, the superblock, Sync.
	for op := range 4 {
		for _, outcome := range []byte{1, 2} {
			what := fmt.Sprintf("op %d is %d", op, outcome)
			s = opened(t, aged(t, last-1), 8)
			s.Device().Outcomes(append(make([]byte, op), outcome))
			wantSays(t, what, s.Commit(api.Super{}, nil), api.ErrIO)
			if op < 2 {
				wantSays(t, what+": it was not tried", s.Commit(api.Super{}, nil), api.OK)
			}
			for range 2 {
				wantRefused(t, what+": it was tried", s, api.Super{}, nil, api.ErrArg)
			}
		}
	}
}

// choices of what is left of n writes: none, all, of each sector alone, and any.
func choices(r *rand.Rand, n, many int) [][]byte {
	var l [][]byte
	for bits := range 16 {
		l = append(l, bytes.Repeat([]byte{byte(bits)}, n))
	}
	for range many {
		c := make([]byte, n)
		for i := range c {
			c[i] = byte(r.Intn(16))
			if r.Intn(3) == 0 {
				c[i] = 15
			}
		}
		l = append(l, c)
	}
	return l
}

// wantCrash: P13.6, T2: whatever is left, one of these is found; and the store that is opened there goes on.
func wantCrash(t *testing.T, what string, d *device.Device, r *rand.Rand, many int, may ...version) {
	t.Helper()
	for i, choice := range choices(r, 12, many) {
		left := d.Crash(choice)
		before := left.Image()
		got := found(t, what, left)
		if !slices.Contains(may, got) {
			t.Fatalf("%s, left are %v: found is %q, want one of %q", what, choice, got, may)
		}
		if i%8 != 0 {
			continue
		}
		s := opened(t, left, 8)
		if !bytes.Equal(left.Image(), before) {
			t.Fatalf("%s: Open wrote", what)
		}
		next := version{"what comes behind " + got.text[:min(20, len(got.text))], "and its state"}
		k := deskOf(t, s)
		wantSays(t, what+": set", k.set([]byte(next.text)), api.OK)
		wantSays(t, what+": Commit", s.Commit(k.n, []byte(next.state)), api.OK)
		wantWhole(t, what+": the next one", s, next)
	}
}

// P13.6, T2: a device dies at each op of a Commit, with any sectors left.
func TestCrashes(t *testing.T) {
	old := version{"the first text\nof some lines,\nlonger than a page of it", "the first state"}
	next := version{"another text\nthat is there when all is done", strings.Repeat("another state ", 20)}
	for _, commits := range []int{1, 2} {
		for op := range 20 {
			r := rand.New(rand.NewSource(int64(op)))
			s := formatted(t, 40, 8)
			k := deskOf(t, s)
			for range commits {
				wantSays(t, "set", k.set([]byte(old.text)), api.OK)
				wantSays(t, "Commit", s.Commit(k.n, []byte(old.state)), api.OK)
			}
			wantSays(t, "set", k.set([]byte(next.text)), api.OK)
			d := s.Device()
			kept, _ := audit.Open(d.Crash(nil))
			before := d.Image()
			d.Fuse(op)
			e := s.Commit(k.n, []byte(next.state))
			what := fmt.Sprintf("%d commits, it dies at op %d", commits, op)
			// The text's three pages, the leaf's, the state's two, the free map's; Sync; the superblock; Sync.
			for _, page := range kept.Pages {
				if !bytes.Equal(pageOf(d, page), before[page*api.PageSize:][:api.PageSize]) {
					t.Fatalf("%s: page %d of the sure one was written", what, page)
				}
			}
			if !bytes.Equal(pageOf(d, kept.Place), before[kept.Place*api.PageSize:][:api.PageSize]) && e != api.OK {
				t.Fatalf("%s: the sure superblock was written", what)
			}
			writes := len(k.on) + need(len(next.state)) + 1
			switch {
			case op <= writes:
				wantSays(t, what, e, api.ErrIO)
				wantCrash(t, what, d, r, 60, old)
			case op <= writes+2:
				wantSays(t, what, e, api.ErrIO)
				wantCrash(t, what, d, r, 60, old, next)
			default:
				wantSays(t, what, e, api.OK)
				wantCrash(t, what, d, r, 10, next)
				d.Fuse(-1)
			}
		}
	}
}

// P13.6, T2: a Commit fails at each op, then another one dies at each: the one that failed may be found if its superblock was begun, and nothing that it reaches was written over.
func TestCrashesBehindFailures(t *testing.T) {
	old := version{"the first text", "the first state"}
	failed := version{"a text whose commit fails", "a state whose commit fails"}
	next := version{"a third text, not on the pages\nof the others", "the third state"}
	for op := range 9 {
		for _, outcome := range []byte{1, 2} {
			for dies := range 10 {
				what := fmt.Sprintf("op %d is %d, then it dies at op %d", op, outcome, dies)
				r := rand.New(rand.NewSource(int64(op*100 + dies)))
				s := formatted(t, 40, 8)
				k := deskOf(t, s)
				wantSays(t, what, k.set([]byte(old.text)), api.OK)
				wantSays(t, what, s.Commit(k.n, []byte(old.state)), api.OK)
				wantSays(t, what, k.set([]byte(failed.text)), api.OK)
				d := s.Device()
				d.Outcomes(append(make([]byte, op), outcome))
				// Two pages of text, a leaf, a page of each chain; Sync; the superblock; Sync.
				e := s.Commit(k.n, []byte(failed.state))
				may := []version{old}
				switch {
				case op > 7:
					wantSays(t, what, e, api.OK)
					may = []version{failed}
					// The outcome that the commit did not come to is taken by this.
					d.Read(0)
				case op > 5:
					wantSays(t, what, e, api.ErrIO)
					may = append(may, failed)
				default:
					wantSays(t, what, e, api.ErrIO)
				}
				wantCrash(t, what+": at once", d, r, 10, may...)
				wantSays(t, what, k.set([]byte(next.text)), api.OK)
				wantSays(t, what, s.Evict(3), api.OK)
				wantCrash(t, what+": pages were written", d, r, 10, may...)
				d.Fuse(dies)
				may = append(may, next)
				if s.Commit(k.n, []byte(next.state)) == api.OK {
					may = []version{next}
				}
				if d.Dead() == (len(may) == 1) {
					t.Fatalf("%s: it is dead: %v, and may be %q", what, d.Dead(), may)
				}
				wantCrash(t, what, d, r, 10, may...)
			}
		}
	}
}

// P13.6, T2, T3: long rows of commits of which many fail, and of crashes behind which another store goes on.
func TestLongLife(t *testing.T) {
	for seed := range 12 {
		r := rand.New(rand.NewSource(int64(seed)))
		d := junk(t, 40+r.Intn(30))
		s, e := store.Format(d, 8+r.Intn(4))
		wantSays(t, "Format", e, api.OK)
		k := deskOf(t, s)
		may := []version{{}}
		for i := range 150 {
			what := fmt.Sprintf("seed %d, step %d", seed, i)
			text, state := bytes.ReplaceAll(mixed(seed<<20+i, r.Intn(120)), []byte{3}, []byte{10}), mixed(i, r.Intn(600))
			if r.Intn(3) > 0 {
				d.Outcomes(append(make([]byte, r.Intn(25)), byte(r.Intn(3))))
			}
			s.Mark()
			was := *k
			if e := k.set(text); e != api.OK {
				// It is full of what failed, or the device failed: taken back, all is as it was.
				wantBack(t, what, s, true)
				*k = was
				text = k.text
			}
			may = append(may, version{string(text), string(state)})
			if s.Commit(k.n, state) == api.OK {
				may = may[len(may)-1:]
				wantWhole(t, what, s, may[0])
			}
			wantCrash(t, what, d, r, 1, may...)
			if r.Intn(10) > 0 {
				continue
			}
			d = d.Crash(choices(r, 20, 1)[r.Intn(17)])
			s = opened(t, d, 8)
			k = deskOf(t, s)
			may = []version{found(t, what, d.Crash(nil))}
		}
	}
}

// T6: whatever bytes are opened make a store for which all of this holds, or are refused.
func TestAnyBytes(t *testing.T) {
	s := formatted(t, 32, 8)
	k := deskOf(t, s)
	for i := range 3 {
		wantSays(t, "set", k.set(mixed(i, 90)), api.OK)
		wantSays(t, "Commit", s.Commit(k.n, mixed(-i, 300)), api.OK)
	}
	image := s.Device().Image()
	taken := 0
	for seed := range 3000 {
		r := rand.New(rand.NewSource(int64(seed)))
		b := bytes.Clone(image)
		for range 1 + r.Intn(3) {
			from, to := r.Intn(32)*api.PageSize, r.Intn(32)*api.PageSize
			switch r.Intn(4) {
			case 0:
				b[r.Intn(len(b))] ^= byte(1 << r.Intn(8))
			case 1:
				copy(b[to:to+api.PageSize], image[from:])
			case 2:
				copy(b[to:to+api.PageSize], make([]byte, api.PageSize))
			case 3:
				n := s.Super()
				n.Gen += r.Intn(3) - 1
				n.State = []int{0, n.State, n.Free, 2 + r.Intn(30)}[r.Intn(4)]
				n.Root = []int{n.Root, 2 + r.Intn(30)}[r.Intn(2)]
				copy(b[r.Intn(2)*api.PageSize:], block(n))
			}
		}
		d, _ := device.Load(b)
		_, want := audit.Open(d.Crash(nil))
		o, e := store.Open(d, 8)
		if e != want || (e == api.OK) != (o != nil) || !bytes.Equal(d.Image(), b) {
			t.Fatalf("seed %d: Open = %v, %v, want %v", seed, o, e, want)
		}
		if e != api.OK {
			continue
		}
		taken++
		what := fmt.Sprint("seed ", seed)
		was := found(t, what, d.Crash(nil))
		wantSays(t, what, o.Commit(o.Super(), []byte("new")), api.OK)
		wantWhole(t, what, o, version{was.text, "new"})
	}
	if taken < 100 || taken > 2900 {
		t.Errorf("of 3000 devices %d were opened", taken)
	}
}
