package text_test

import (
	"bytes"
	"fmt"
	"math"
	"math/rand"
	"slices"
	"testing"

	"escritoire/api"
	"escritoire/audit"
	"escritoire/cell"
	"escritoire/device"
	"escritoire/store"
	"escritoire/text"
)

// body is how many bytes a text page has: written out here, so that it does not change with the program's own.
const body = 248

// far are places, lengths and lines that no text has.
var far = []int{math.MinInt, math.MinInt + 1, -1 << 32, -2, -1, 1<<20 + 1, 1 << 31, 1 << 32, math.MaxInt - 1, math.MaxInt}

func wantSays(t *testing.T, what string, got, want api.Errno) {
	t.Helper()
	if got != want {
		t.Fatalf("%s: %v, want %v", what, got, want)
	}
}

func formatted(t *testing.T, pages, frames int) *store.Store {
	t.Helper()
	d, e := device.New(pages)
	wantSays(t, "device.New", e, api.OK)
	s, e := store.Format(d, frames)
	wantSays(t, "store.Format", e, api.OK)
	return s
}

// opened are the store and the text that a device has.
func opened(t *testing.T, what string, d *device.Device) (*store.Store, *text.Text) {
	t.Helper()
	s, e := store.Open(d, 8)
	wantSays(t, what+": store.Open", e, api.OK)
	x, e := text.Open(s)
	wantSays(t, what+": Open", e, api.OK)
	return s, x
}

// part is a piece of a text page, which is told by a number of the test's own.
type part struct {
	page, off, n int
}

// row is what a text must be: its bytes, and how they are cut.
type row struct {
	b []byte
	l []part
}

func (r row) lines() int {
	return bytes.Count(r.b, []byte{10})
}

// cut is the row's parts with a seam at a place, and how many of them are ahead of it.
func (r row) cut(at int) ([]part, int) {
	for i, p := range r.l {
		switch {
		case at <= 0:
			return r.l, i
		case at < p.n:
			two := []part{{p.page, p.off, at}, {p.page, p.off + at, p.n - at}}
			return slices.Concat(r.l[:i], two, r.l[i+1:]), i + 1
		}
		at -= p.n
	}
	return r.l, len(r.l)
}

func (r row) inserted(at int, b []byte, page int) row {
	if len(b) == 0 {
		return r
	}
	l, i := r.cut(at)
	var put []part
	for n := len(b); n > 0; n -= body {
		put = append(put, part{page + len(put), 0, min(n, body)})
	}
	return row{slices.Concat(r.b[:at], b, r.b[at:]), slices.Concat(l[:i], put, l[i:])}
}

func (r row) deleted(at, n int) row {
	if n == 0 {
		return r
	}
	r.l, _ = r.cut(at + n)
	l, i := r.cut(at)
	_, j := row{l: l}.cut(at + n)
	return row{slices.Concat(r.b[:at], r.b[at+n:]), slices.Concat(l[:i], l[j:])}
}

// fits is where the first two stand that fit into one page together; -1: nowhere.
func (r row) fits() int {
	for i := 1; i < len(r.l); i++ {
		if r.l[i-1].n+r.l[i].n <= body {
			return i - 1
		}
	}
	return -1
}

// begin is where the i-th part begins.
func (r row) begin(i int) int {
	n := 0
	for _, p := range r.l[:i] {
		n += p.n
	}
	return n
}

// desk is a text beside what it must be.
type desk struct {
	t      *testing.T
	r      *rand.Rand
	frames int
	s      *store.Store
	x      *text.Text
	row
	texts [][]byte // what was put on each page, by the test's own numbers
	since int      // the first of them that was not written at the last commit
	kept  row
	sure  version // the last commit
}

// version is what a commit keeps.
type version struct {
	text, state string
}

func deskOf(t *testing.T, pages, frames int) *desk {
	t.Helper()
	k := &desk{t: t, r: rand.New(rand.NewSource(int64(pages + frames))), frames: frames, s: formatted(t, pages, frames)}
	x, e := text.Open(k.s)
	wantSays(t, "Open", e, api.OK)
	k.x = x
	return k
}

// grown is a desk with parts of these lengths, each put in by a call at the end; of those that are longer than a page there are several.
func grown(t *testing.T, pages, frames int, lengths ...int) *desk {
	t.Helper()
	k := deskOf(t, pages, frames)
	for _, n := range lengths {
		k.insert("grown", len(k.b), k.some(n))
	}
	k.wantNow(fmt.Sprint("grown ", lengths))
	return k
}

// again is another desk with the text that was committed, on a device of its own.
func (k *desk) again(t *testing.T) *desk {
	t.Helper()
	c := *k
	c.t, c.r = t, rand.New(rand.NewSource(1))
	c.s, c.x = opened(t, "again", k.s.Device().Clone())
	c.texts = slices.Clip(k.texts)
	return &c
}

// some are n bytes, of which many are 10.
func (k *desk) some(n int) []byte {
	b := make([]byte, n)
	for i := range b {
		b[i] = byte(k.r.Intn(256))
		if k.r.Intn(4) == 0 {
			b[i] = 10
		}
	}
	return b
}

func (k *desk) insert(what string, at int, b []byte) {
	k.t.Helper()
	wantSays(k.t, fmt.Sprintf("%s: Insert(%d) of %d", what, at, len(b)), k.x.Insert(at, b), api.OK)
	k.inserted(at, b)
}

// inserted is what a row becomes by an Insert that was done.
func (k *desk) inserted(at int, b []byte) {
	k.row = k.row.inserted(at, b, len(k.texts))
	k.texts = slices.AppendSeq(k.texts, slices.Chunk(bytes.Clone(b), body))
}

func (k *desk) delete(what string, at, n int) {
	k.t.Helper()
	wantSays(k.t, fmt.Sprintf("%s: Delete(%d, %d)", what, at, n), k.x.Delete(at, n), api.OK)
	k.row = k.row.deleted(at, n)
}

// step tells whether there were two that fit.
func (k *desk) step(what string) bool {
	k.t.Helper()
	want := k.fits() >= 0
	if got, e := k.x.Step(); got != want || e != api.OK {
		k.t.Fatalf("%s: Step = %v, %v, want %v", what, got, e, want)
	}
	k.stepped()
	return want
}

func (k *desk) stepped() {
	i := k.fits()
	if i < 0 {
		return
	}
	at := k.begin(i)
	p := part{len(k.texts), 0, k.l[i].n + k.l[i+1].n}
	k.l = slices.Concat(k.l[:i], []part{p}, k.l[i+2:])
	k.texts = append(k.texts, bytes.Clone(k.b[at:at+p.n]))
}

func (k *desk) keep() {
	k.x.Keep()
	k.kept = k.row
}

func (k *desk) back(what string) {
	k.t.Helper()
	if !k.x.Back() {
		k.t.Fatalf("%s: no Back", what)
	}
	k.row = k.kept
	k.wantNow(what + ": Back")
}

// wantNow: P15.1, P15.5, T5: the text is what the row is.
func (k *desk) wantNow(what string) {
	k.t.Helper()
	wantText(k.t, what, k.x, k.row)
	if k.s.Pinned() != 0 || k.s.Resident() > k.frames {
		k.t.Fatalf("%s: %d pinned, %d resident", what, k.s.Pinned(), k.s.Resident())
	}
	k.wantPages(what)
}

func wantText(t *testing.T, what string, x *text.Text, r row) {
	t.Helper()
	if x == nil {
		t.Fatalf("%s: no text", what)
	}
	if x.Len() != len(r.b) || x.Lines() != r.lines() || x.Pieces() != len(r.l) {
		t.Fatalf("%s: %d bytes, %d lines, %d pieces, want %d, %d, %d", what, x.Len(), x.Lines(), x.Pieces(), len(r.b), r.lines(), len(r.l))
	}
	wantRead(t, what, x, r, 0, len(r.b))
}

func wantRead(t *testing.T, what string, x *text.Text, r row, at, n int) {
	t.Helper()
	if got, e := x.Read(at, n); e != api.OK || !bytes.Equal(got, r.b[at:at+n]) {
		t.Fatalf("%s: Read(%d, %d) = %q, %v, want %q", what, at, n, got, e, r.b[at:at+n])
	}
}

// wantBegin, wantLine: one answer each, held against a walk through the plain bytes.
func (k *desk) wantBegin(line int) {
	k.t.Helper()
	want, says := 0, api.ErrNone
	if line == 0 {
		says = api.OK
	}
	for i, c := range k.b {
		if c == 10 && bytes.Count(k.b[:i], []byte{10}) == line-1 {
			want, says = i+1, api.OK
		}
	}
	if got, e := k.x.Begin(line); got != want || e != says {
		k.t.Fatalf("%d bytes: Begin(%d) = %d, %v, want %d, %v", len(k.b), line, got, e, want, says)
	}
}

func (k *desk) wantLine(at int) {
	k.t.Helper()
	want, says := 0, api.ErrArg
	if 0 <= at && at <= len(k.b) {
		want, says = bytes.Count(k.b[:at], []byte{10}), api.OK
	}
	if got, e := k.x.Line(at); got != want || e != says {
		k.t.Fatalf("%d bytes: Line(%d) = %d, %v, want %d, %v", len(k.b), at, got, e, want, says)
	}
}

// reached are the row's text pages, each once, by the test's own numbers.
func (r row) reached() []int {
	var l []int
	for _, p := range r.l {
		l = append(l, p.page)
	}
	slices.Sort(l)
	return slices.Compact(l)
}

// own are the pages that are own.
func own(s *store.Store) []int {
	var l []int
	for page := range s.Device().Pages() {
		if s.Own(page) {
			l = append(l, page)
		}
	}
	return l
}

// wantPages: P15.2: of the text pages that were written since the last commit just those are own that a piece reaches, with the bytes that were put there.
func (k *desk) wantPages(what string) {
	k.t.Helper()
	var got, want []string
	for _, page := range own(k.s) {
		b, e := k.s.Read(page)
		wantSays(k.t, what+": Read", e, api.OK)
		if b[4] == 4 {
			put, e := cell.Text(b)
			wantSays(k.t, what+": cell.Text", e, api.OK)
			got = append(got, string(put))
		}
	}
	for _, page := range k.reached() {
		if page >= k.since {
			want = append(want, string(k.texts[page]))
		}
	}
	slices.Sort(got)
	slices.Sort(want)
	if !slices.Equal(got, want) {
		k.t.Fatalf("%s: %d text pages are own, want %d: %q, want %q", what, len(got), len(want), got, want)
	}
}

// commit commits the text, and looks at what the device has.
func (k *desk) commit(what, state string) {
	k.t.Helper()
	wantSays(k.t, what+": Commit", k.x.Commit([]byte(state)), api.OK)
	k.committed(what, state)
}

// committed is what is so behind a Commit that was done: P15.4, T2, T3.
func (k *desk) committed(what, state string) {
	k.t.Helper()
	k.since, k.sure = len(k.texts), version{string(k.b), state}
	k.wantNow(what)
	wantDevice(k.t, what, k.s, k.row, state, k.texts)
	if got, e := k.x.State(); string(got) != state || e != api.OK {
		k.t.Fatalf("%s: State = %q, %v, want %q", what, got, e, state)
	}
	_, x := opened(k.t, what, k.s.Device().Crash(nil))
	wantText(k.t, what+": opened anew", x, k.row)
	if got, e := x.State(); string(got) != state || e != api.OK {
		k.t.Fatalf("%s: opened anew: State = %q, %v, want %q", what, got, e, state)
	}
}

// wantDevice lets audit walk through the device: it has the text, cut as the row is, each page with what was put there; what is not reached is free.
func wantDevice(t *testing.T, what string, s *store.Store, r row, state string, texts [][]byte) {
	t.Helper()
	d := s.Device().Clone()
	got, e := audit.Walk(d, s.Super())
	wantSays(t, what+": audit.Walk", e, api.OK)
	if !bytes.Equal(got.Text, r.b) || string(got.State) != state || len(got.Pieces) != len(r.l) {
		t.Fatalf("%s: audit.Walk finds %d bytes, state %q, %d pieces, want %d, %q, %d", what, len(got.Text), got.State, len(got.Pieces), len(r.b), state, len(r.l))
	}
	pages := map[int]int{}
	for i, p := range got.Pieces {
		if page, ok := pages[r.l[i].page]; ok && page != p.Page {
			t.Fatalf("%s: piece %d is on page %d, want %d", what, i, p.Page, page)
		}
		pages[r.l[i].page] = p.Page
		if p.Off != r.l[i].off || p.Len != r.l[i].n {
			t.Fatalf("%s: piece %d is %+v, want %+v", what, i, p, r.l[i])
		}
	}
	at := map[int]bool{}
	for i, page := range pages {
		b, e := d.Read(page)
		wantSays(t, what+": Read", e, api.OK)
		put, e := cell.Text(b)
		if e != api.OK || !bytes.Equal(put, texts[i]) || at[page] {
			t.Fatalf("%s: text page %d is %q, %v, want %q", what, page, put, e, texts[i])
		}
		at[page] = true
	}
	if free := d.Pages() - 2 - len(got.Pages); s.Free() != free || len(own(s)) > 0 {
		t.Fatalf("%s: %d pages are free, want %d; own are %v", what, s.Free(), free, own(s))
	}
}

// stands is all that a store and a text tell without an op.
func stands(k *desk) string {
	return fmt.Sprint(k.s.Free(), own(k.s), k.s.Super(), k.x.Len(), k.x.Lines(), k.x.Pieces())
}

// wantRefused: R3: a call that was refused changed nothing.
func (k *desk) wantRefused(what string, got, want api.Errno, ahead string) {
	k.t.Helper()
	wantSays(k.t, what, got, want)
	if now := stands(k); now != ahead {
		k.t.Fatalf("%s: %s, was %s", what, now, ahead)
	}
}
