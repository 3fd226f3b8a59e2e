package store_test

import (
	"bytes"
	"fmt"
	"math/rand"
	"slices"
	"testing"

	"escritoire/api"
	"escritoire/device"
	"escritoire/store"
)

// The states of a page, a letter each.
const (
	isFree    = '.'
	isUsed    = 'u'
	isOwn     = 'o'
	isPending = 'p'
)

// model is a store by the words of the chapter: a letter for each page, and what was written to it. It knows no frames.
type model struct {
	letters, point []byte // the second nil: there is no point
	bytes          map[int][]byte
	sure           api.Super
	place, tried   int
	chains         []int
}

func newModel(pages int) *model {
	m := &model{letters: bytes.Repeat([]byte{isFree}, pages), bytes: map[int][]byte{}, tried: 1}
	for page := range 2 + mapNeed(pages) {
		m.letters[page] = isUsed
		if page > 1 {
			m.chains = append(m.chains, page)
		}
	}
	m.sure = api.Super{Gen: 1, Pages: pages, Free: 2}
	return m
}

func (m *model) has(page int) bool {
	return 0 <= page && page < len(m.letters)
}

func (m *model) ownAtPoint(page int) bool {
	return m.point != nil && m.point[page] == isOwn
}

func (m *model) alloc() (int, api.Errno) {
	for page, letter := range m.letters {
		if letter == isFree && (m.point == nil || m.point[page] == isFree) {
			m.letters[page] = isOwn
			delete(m.bytes, page)
			return page, api.OK
		}
	}
	return 0, api.ErrFull
}

func (m *model) write(page int, b []byte) api.Errno {
	switch {
	case !m.has(page):
		return api.ErrArg
	case m.letters[page] != isOwn || m.ownAtPoint(page):
		return api.ErrState
	}
	m.bytes[page] = b
	return api.OK
}

func (m *model) drop(page int) api.Errno {
	if page < 2 || !m.has(page) {
		return api.ErrArg
	}
	switch m.letters[page] {
	case isOwn:
		m.letters[page] = isFree
	case isUsed:
		m.letters[page] = isPending
	default:
		return api.ErrState
	}
	return api.OK
}

func (m *model) mark() {
	m.point = bytes.Clone(m.letters)
}

func (m *model) back() bool {
	if m.point == nil {
		return false
	}
	m.letters = bytes.Clone(m.point)
	return true
}

// become changes all letters of one sort.
func (m *model) become(from, to byte) {
	m.letters = bytes.ReplaceAll(m.letters, []byte{from}, []byte{to})
}

// How a commit ends.
const (
	done = iota
	failsAhead
	failsBegun
)

// commit does one that ends as it is told to, if it is not refused.
func (m *model) commit(state []byte, end int) api.Errno {
	ahead := bytes.Clone(m.letters)
	var chains []int
	for range need(len(state)) + mapNeed(len(m.letters)) {
		page, e := m.alloc()
		if e != api.OK {
			m.letters = ahead
			return e
		}
		chains = append(chains, page)
	}
	switch end {
	case failsAhead:
		m.letters = ahead
		return api.ErrIO
	case failsBegun:
		m.tried++
		m.point = nil
		m.become(isOwn, isUsed)
		for _, page := range chains {
			m.letters[page] = isPending
		}
		return api.ErrIO
	}
	m.tried++
	m.point = nil
	for _, page := range m.chains {
		m.letters[page] = isPending
	}
	m.become(isPending, isFree)
	m.become(isOwn, isUsed)
	m.sure = api.Super{Gen: m.tried, Pages: len(m.letters), Free: chains[need(len(state))]}
	if len(state) > 0 {
		m.sure.State = chains[0]
	}
	m.place, m.chains = 1-m.place, chains
	return api.OK
}

func (m *model) used() []int {
	var l []int
	for page, letter := range m.letters {
		if letter == isUsed || letter == isOwn {
			l = append(l, page)
		}
	}
	return l
}

// deed is one call, which can be done again on another store.
type deed struct {
	kind, page, seed int
	end              int    // how a commit ends
	outcomes         []byte // by which it ends so
}

const (
	doAlloc = iota
	doWrite
	doDrop
	doMark
	doBack
	doEvict
	doRead
	doCommit
)

func (k deed) state() []byte {
	return mixed(k.seed, k.seed%700)
}

// do is what is called, and what is answered.
func (k deed) do(s *store.Store) string {
	switch k.kind {
	case doAlloc:
		page, e := s.Alloc()
		return fmt.Sprint("Alloc ", page, e)
	case doWrite:
		return fmt.Sprint("Write ", k.page, s.Write(k.page, sheet(k.seed)))
	case doDrop:
		return fmt.Sprint("Drop ", k.page, s.Drop(k.page))
	case doMark:
		s.Mark()
		return "Mark"
	case doBack:
		return fmt.Sprint("Back ", s.Back())
	case doEvict:
		return fmt.Sprint("Evict ", s.Evict(k.seed%6))
	case doRead:
		b, e := s.Read(k.page)
		return fmt.Sprint("Read ", k.page, b, e)
	}
	s.Device().Outcomes(k.outcomes)
	return fmt.Sprint("Commit ", s.Commit(api.Super{}, k.state()))
}

// want is what the model answers, or nothing, where the bytes of a page are nobody's.
func (k deed) want(m *model) string {
	switch k.kind {
	case doAlloc:
		page, e := m.alloc()
		return fmt.Sprint("Alloc ", page, e)
	case doWrite:
		return fmt.Sprint("Write ", k.page, m.write(k.page, sheet(k.seed)))
	case doDrop:
		return fmt.Sprint("Drop ", k.page, m.drop(k.page))
	case doMark:
		m.mark()
		return "Mark"
	case doBack:
		return fmt.Sprint("Back ", m.back())
	case doEvict:
		return fmt.Sprint("Evict ", api.OK)
	case doRead:
		if !m.has(k.page) {
			return fmt.Sprint("Read ", k.page, []byte{}, api.ErrArg)
		}
		if b := m.bytes[k.page]; b != nil && m.letters[k.page] != isFree {
			return fmt.Sprint("Read ", k.page, b, api.OK)
		}
		return ""
	}
	return fmt.Sprint("Commit ", m.commit(k.state(), k.end))
}

// anyDeed is one of those that may be next; pages are mostly those that are own.
func anyDeed(r *rand.Rand, m *model) deed {
	kinds := []int{doAlloc, doAlloc, doAlloc, doAlloc, doWrite, doWrite, doWrite, doWrite, doDrop, doDrop, doDrop, doMark, doBack, doEvict, doRead, doRead, doCommit}
	k := deed{kind: kinds[r.Intn(len(kinds))], page: r.Intn(len(m.letters)+2) - 1, seed: 1 + r.Intn(1<<20)}
	if k.kind == doCommit {
		k.end = []int{done, done, failsAhead, failsBegun}[r.Intn(4)]
		return k
	}
	for range 10 {
		if m.has(k.page) && m.letters[k.page] == isOwn {
			break
		}
		k.page = r.Intn(len(m.letters)+2) - 1
	}
	return k
}

// rehearse tells how many ops a commit has when all goes well: on a store to which the same was done (R5).
func rehearse(t *testing.T, pages, frames int, ahead []deed, k deed) int {
	t.Helper()
	s := formatted(t, pages, frames)
	for _, x := range ahead {
		x.do(s)
	}
	before := s.Device().Ops()
	k.outcomes = nil
	k.do(s)
	return s.Device().Ops() - before
}

// fails makes one op of a commit fail: the last two are its superblock's Write and the Sync behind it.
func (k *deed) fails(r *rand.Rand, ops int) {
	outcome := byte(1 + r.Intn(2))
	switch {
	case ops == 0 || k.end == done:
		return
	case k.end == failsBegun:
		k.outcomes = append(make([]byte, ops-1-r.Intn(2)), outcome)
	default:
		k.outcomes = append(make([]byte, r.Intn(ops-2)), outcome)
	}
}

// wantAs: all that a store tells without an op, against the model; and that nothing that a superblock may reach was written.
func wantAs(t *testing.T, what string, s *store.Store, m *model, kept map[int][]byte) {
	t.Helper()
	for page := -1; page <= len(m.letters); page++ {
		if got, want := s.Own(page), m.has(page) && m.letters[page] == isOwn; got != want {
			t.Fatalf("%s: Own(%d) = %v, want %v", what, page, got, want)
		}
	}
	wantFree(t, what, s, bytes.Count(m.letters, []byte{isFree}))
	wantSuper(t, what, s, m.sure)
	image := s.Device().Image()
	for page, want := range kept {
		if !bytes.Equal(image[page*api.PageSize:][:api.PageSize], want) {
			t.Fatalf("%s: page %d, which the last superblock may reach, was written", what, page)
		}
	}
}

// wantOnDevice: what a commit that was done left there.
func wantOnDevice(t *testing.T, what string, d *device.Device, m *model, state []byte) {
	t.Helper()
	image := d.Image()
	if !bytes.Equal(pageOf(d, m.place), block(m.sure)) {
		t.Fatalf("%s: the superblock is not at place %d", what, m.place)
	}
	if b, _ := chainOf(image, m.sure.State); !bytes.Equal(b, state) {
		t.Fatalf("%s: the state is another", what)
	}
	bits, on := chainOf(image, m.sure.Free)
	if want := bitsOf(len(m.letters), m.used()); !bytes.Equal(bits, want) {
		t.Fatalf("%s: the free map is %v, want %v", what, bits, want)
	}
	if !slices.Equal(on, m.chains[need(len(state)):]) {
		t.Fatalf("%s: the free map is on %v of %v", what, on, m.chains)
	}
	for page, b := range m.bytes {
		if m.letters[page] == isUsed && !slices.Contains(m.chains, page) && !bytes.Equal(pageOf(d, page), b) {
			t.Fatalf("%s: page %d is not as it was written", what, page)
		}
	}
	if !bytes.Equal(lasting(d), image) {
		t.Fatalf("%s: it was not synced", what)
	}
}

// P13.1 to P13.6: long rows of calls on stores of few frames and of many, of which commits fail ahead of their superblock and behind it.
func TestManyCalls(t *testing.T) {
	counts := map[string]int{}
	for seed := range 40 {
		r := rand.New(rand.NewSource(int64(seed)))
		pages, frames := 12+r.Intn(40), []int{8, 9, 64}[r.Intn(3)]
		s := formatted(t, pages, frames)
		m := newModel(pages)
		var row []deed
		kept := map[int][]byte{}
		keep := func() {
			for page, letter := range m.letters {
				if letter == isUsed || letter == isPending {
					kept[page] = pageOf(s.Device(), page)
				}
			}
			delete(kept, 1-m.place)
		}
		keep()
		for i := range 250 {
			k := anyDeed(r, m)
			if k.kind == doCommit {
				k.fails(r, rehearse(t, pages, frames, row, k))
			}
			row = append(row, k)
			got, want := k.do(s), k.want(m)
			what := fmt.Sprintf("seed %d, call %d: %.40s", seed, i, got)
			if want != "" && got != want {
				t.Fatalf("%s, want %.40s", what, want)
			}
			if s.Resident() > frames || s.Pinned() != 0 {
				t.Fatalf("%s: %d resident, %d pinned", what, s.Resident(), s.Pinned())
			}
			wantAs(t, what, s, m, kept)
			counts[got]++
			switch got {
			case "Commit ok":
				clear(kept)
				keep()
				wantOnDevice(t, what, s.Device(), m, k.state())
			case "Commit device":
				keep()
			}
		}
	}
	for _, what := range []string{"Commit ok", "Commit device", "Commit full", "Back true", "Back false"} {
		if counts[what] < 50 {
			t.Errorf("%q came %d times only", what, counts[what])
		}
	}
}
