package space_test

import (
	"bytes"
	"fmt"
	"math"
	"math/rand"
	"slices"
	"strings"
	"testing"

	"escritoire/api"
	"escritoire/space"
)

// A picture of a space has a letter for each page: u used, o own, p pending, a point: free.
const letters = "uop."

// farPages lie in no space.
var farPages = []int{math.MinInt, math.MinInt + 1, -1 << 32, -4096, -8, -7, -2, -1, 4096, 4097, 4104, 1 << 31, 1 << 32, 1 << 56, math.MaxInt - 1, math.MaxInt}

// someCounts of pages: the edges, and some that are and that are not a multiple of 8.
var someCounts = []int{api.MinPages, 9, 10, 14, 15, 16, 17, 23, 24, 25, 63, 64, 65, 255, 256, 257, 1000, api.MaxPages - 8, api.MaxPages - 7, api.MaxPages - 1, api.MaxPages}

// wrongCounts of pages are refused.
var wrongCounts = []int{math.MinInt, -1 << 32, -api.MaxPages, -api.MinPages, -1, 0, 1, 2, 3, api.MinPages - 1, api.MaxPages + 1, 2 * api.MaxPages, 1 << 31, 1<<32 + 8, math.MaxInt - 7, math.MaxInt}

// laid lays out the bits of those pages whose letter is among these.
func laid(picture, among string) []byte {
	b := make([]byte, (len(picture)+7)/8)
	for page := range picture {
		if strings.IndexByte(among, picture[page]) >= 0 {
			b[page/8] += 1 << (page % 8)
		}
	}
	return b
}

// look draws what can be told of a space, each page's letter by Used, Own and Bits; a question mark where they do not fit together.
func look(t *testing.T, what string, s *space.Space, pages int) string {
	t.Helper()
	bits := s.Bits()
	if len(bits) != (pages+7)/8 {
		t.Fatalf("%s: %d bytes of bits of %d pages", what, len(bits), pages)
	}
	var b strings.Builder
	for page := range pages {
		set := bits[page/8]>>(page%8)%2 == 1
		switch told := [3]bool{s.Used(page), s.Own(page), set}; told {
		case [3]bool{false, false, false}:
			b.WriteByte('.')
		case [3]bool{true, false, true}:
			b.WriteByte('u')
		case [3]bool{true, true, true}:
			b.WriteByte('o')
		case [3]bool{true, false, false}:
			b.WriteByte('p')
		default:
			b.WriteByte('?')
		}
	}
	if n := strings.Count(b.String(), "."); s.Free() != n {
		t.Errorf("%s: %d free of %s", what, s.Free(), b.String())
	}
	if !bytes.Equal(bits, laid(b.String(), "uo")) {
		t.Errorf("%s: bits %v of %s", what, bits, b.String())
	}
	return b.String()
}

func wantLook(t *testing.T, what string, s *space.Space, want string) {
	t.Helper()
	if got := look(t, what, s, len(want)); got != want {
		t.Errorf("%s: %s, want %s", what, got, want)
	}
}

func wantSays(t *testing.T, what string, got, want api.Errno) {
	t.Helper()
	if got != want {
		t.Errorf("%s: %v, want %v", what, got, want)
	}
}

func wantAlloc(t *testing.T, what string, s *space.Space, want int) {
	t.Helper()
	if page, e := s.Alloc(); page != want || e != api.OK {
		t.Errorf("%s: Alloc = %d, %v, want %d", what, page, e, want)
	}
}

func wantNoAlloc(t *testing.T, what string, s *space.Space, want api.Errno) {
	t.Helper()
	if page, e := s.Alloc(); page != 0 || e != want {
		t.Errorf("%s: Alloc = %d, %v, want 0, %v", what, page, e, want)
	}
}

// wantMade looks at a space that was just made.
func wantMade(t *testing.T, what string, s *space.Space, e api.Errno, want string) {
	t.Helper()
	if s == nil || e != api.OK {
		t.Errorf("%s: %v, %v", what, s, e)
		return
	}
	wantLook(t, what, s, want)
}

func wantRefused(t *testing.T, what string, s *space.Space, e, want api.Errno) {
	t.Helper()
	if s != nil || e != want {
		t.Errorf("%s: %v, %v, want %v", what, s, e, want)
	}
}

// drawn makes a space of a picture, out of calls: all that is free is taken and what is to be free given up again.
func drawn(t *testing.T, picture string) *space.Space {
	t.Helper()
	s, e := space.Load(len(picture), laid(picture, "up"))
	if e != api.OK || s == nil {
		t.Fatalf("Load of %s: %v", picture, e)
	}
	for page := range picture {
		if picture[page] == 'o' || picture[page] == '.' {
			wantAlloc(t, picture, s, page)
		}
	}
	for page := range picture {
		if picture[page] == 'p' || picture[page] == '.' {
			wantSays(t, picture, s.Give(page), api.OK)
		}
	}
	wantLook(t, "drawn", s, picture)
	return s
}

// mixed draws a picture of so many pages, with the letters that are given, in no order.
func mixed(r *rand.Rand, pages int, among string) string {
	b := []byte("uu")
	for len(b) < pages {
		b = append(b, among[r.Intn(len(among))])
	}
	return string(b)
}

// put answers the picture with another letter at a page.
func put(picture string, page int, letter byte) string {
	b := []byte(picture)
	b[page] = letter
	return string(b)
}

// ends are the calls that end a transaction, with what they make of each letter.
var ends = []struct {
	name string
	do   func(*space.Space)
	turn *strings.Replacer
}{
	{"Commit", (*space.Space).Commit, strings.NewReplacer("o", "u", "p", ".")},
	{"Doubt", (*space.Space).Doubt, strings.NewReplacer("o", "u")},
	{"Abort", (*space.Space).Abort, strings.NewReplacer("o", ".", "p", "u")},
}

// The chapter's examples.
func TestExamples(t *testing.T) {
	s, e := space.New(10)
	wantMade(t, "New(10)", s, e, "uu........")
	wantAlloc(t, "first", s, 2)
	wantAlloc(t, "second", s, 3)
	wantSays(t, "Give(2)", s.Give(2), api.OK)
	wantAlloc(t, "third", s, 2)
	s.Commit()
	wantSays(t, "Give(3)", s.Give(3), api.OK)
	wantAlloc(t, "behind Commit", s, 4)
	if n := s.Free(); n != 5 {
		t.Errorf("Free = %d, want 5", n)
	}
	wantSays(t, "Give(3) again", s.Give(3), api.ErrState)
	wantSays(t, "Give(0)", s.Give(0), api.ErrArg)
	s.Commit()
	wantAlloc(t, "at the end", s, 3)
}

// P10.1: New, with pages at its limits and between them.
func TestNew(t *testing.T) {
	for _, pages := range someCounts {
		s, e := space.New(pages)
		wantMade(t, fmt.Sprintf("New(%d)", pages), s, e, "uu"+strings.Repeat(".", pages-2))
		if n := s.Free(); n != pages-2 {
			t.Errorf("New(%d): %d free", pages, n)
		}
	}
}

// P10.1: New refuses what is past a limit.
func TestNewRefused(t *testing.T) {
	for _, pages := range wrongCounts {
		s, e := space.New(pages)
		wantRefused(t, fmt.Sprintf("New(%d)", pages), s, e, api.ErrArg)
	}
}

// P10.1: Load, with no, all, every single and mixed bits.
func TestLoad(t *testing.T) {
	r := rand.New(rand.NewSource(1))
	for _, pages := range someCounts {
		pictures := []string{"uu" + strings.Repeat(".", pages-2), strings.Repeat("u", pages)}
		for range 4 {
			pictures = append(pictures, mixed(r, pages, "u."), mixed(r, pages, "u......."), mixed(r, pages, "uuuuuuu."))
		}
		for page := 2; page < pages; page += 1 + pages/40 {
			pictures = append(pictures, put(pictures[0], page, 'u'), put(pictures[1], page, '.'))
		}
		pictures = append(pictures, put(pictures[0], pages-1, 'u'), put(pictures[1], pages-1, '.'))
		for _, picture := range pictures {
			s, e := space.Load(pages, laid(picture, "u"))
			wantMade(t, fmt.Sprintf("Load(%d)", pages), s, e, picture)
		}
	}
}

// P10.1: the bit of page i is bit i modulo 8, from the lowest, of byte i / 8; bytes written out.
func TestLoadBits(t *testing.T) {
	for _, x := range []struct {
		bits []byte
		want string
	}{
		{[]byte{3, 0}, "uu........"},
		{[]byte{7, 0}, "uuu......."},
		{[]byte{131, 0}, "uu.....u.."},
		{[]byte{3, 1}, "uu......u."},
		{[]byte{3, 2}, "uu.......u"},
		{[]byte{83, 2}, "uu..u.u..u"},
		{[]byte{255, 3}, "uuuuuuuuuu"},
		{[]byte{3}, "uu......"},
		{[]byte{255}, "uuuuuuuu"},
		{[]byte{67, 192, 1}, "uu....u.......uuu"},
	} {
		s, e := space.Load(len(x.want), x.bits)
		wantMade(t, fmt.Sprint(x.bits), s, e, x.want)
		if got := s.Bits(); !bytes.Equal(got, x.bits) {
			t.Errorf("Bits = %v, want %v", got, x.bits)
		}
	}
}

// P10.1: bits that are not just so many bytes, that lack a superblock, or that have a page too many.
func TestLoadForm(t *testing.T) {
	for _, pages := range someCounts {
		n := (pages + 7) / 8
		good := laid("uu"+strings.Repeat(".", pages-2), "u")
		full := laid(strings.Repeat("u", pages), "u")
		refused := func(what string, b []byte) {
			t.Helper()
			s, e := space.Load(pages, b)
			wantRefused(t, fmt.Sprintf("Load(%d) %s", pages, what), s, e, api.ErrForm)
		}
		refused("of nil", nil)
		refused("of no bytes", []byte{})
		refused("of no bytes with room", good[:0])
		for name, b := range map[string][]byte{"few": good, "full": full} {
			refused("one byte less, "+name, b[:n-1])
			refused("one byte more, "+name, append(bytes.Clone(b), 0))
			refused("one full byte more, "+name, append(bytes.Clone(b), 255))
			refused("twice, "+name, append(bytes.Clone(b), b...))
			for drop, page := range map[byte]string{1: "0", 2: "1", 3: "0 and 1"} {
				c := bytes.Clone(b)
				c[0] &^= drop
				refused("without page "+page+", "+name, c)
			}
			for bit := pages; bit < 8*n; bit++ {
				c := bytes.Clone(b)
				c[n-1] |= 1 << (bit % 8)
				refused(fmt.Sprintf("with the bit of page %d, %s", bit, name), c)
			}
		}
		refused("of noughts", make([]byte, n))
	}
}

// P10.1, R6: of two errors New's is the one.
func TestLoadRefused(t *testing.T) {
	for _, pages := range wrongCounts {
		lists := [][]byte{nil, {}, {0}, {3}, {255}, {3, 0}, {0, 0}, make([]byte, api.MaxPages/8), make([]byte, api.MaxPages/8+1)}
		lists = append(lists, append([]byte{3}, make([]byte, api.MaxPages/8)...))
		for _, b := range lists {
			s, e := space.Load(pages, b)
			wantRefused(t, fmt.Sprintf("Load(%d, %d bytes)", pages, len(b)), s, e, api.ErrArg)
		}
	}
}

// P10.2: Alloc tells the least free page, each once, till none is free.
func TestAlloc(t *testing.T) {
	r := rand.New(rand.NewSource(2))
	for _, pages := range someCounts {
		for _, among := range []string{".", "u.", "up.", "uop.", "uuuuuuuuu.", "pppppp."} {
			picture := mixed(r, pages, among)
			s := drawn(t, picture)
			for page := range picture {
				if picture[page] == '.' {
					wantAlloc(t, picture, s, page)
				}
			}
			want := strings.ReplaceAll(picture, ".", "o")
			wantLook(t, "all taken", s, want)
			for range 2 {
				wantNoAlloc(t, "all taken", s, api.ErrFull)
				wantLook(t, "refused", s, want)
			}
		}
	}
}

// P10.2: Alloc when just one page is free, each of them in turn, and when none is; pages that are not used by the last Commit alone are not free.
func TestAllocOfOne(t *testing.T) {
	for _, pages := range []int{8, 9, 15, 16, 17, 4095, 4096} {
		for page := 2; page < pages; page += 1 + pages/100*7 {
			for _, others := range []string{"u", "o", "p"} {
				full := "uu" + strings.Repeat(others, pages-2)
				s := drawn(t, put(full, page, '.'))
				wantAlloc(t, "one free", s, page)
				wantNoAlloc(t, "none free", s, api.ErrFull)
				wantSays(t, "given up", s.Give(page), api.OK)
				wantAlloc(t, "one free again", s, page)
				wantLook(t, "none free", s, put(full, page, 'o'))
			}
		}
	}
	for _, full := range []string{"uuuuuuuu", "uuoooooo", "uupppppp", "uuuuuuuuu", "uupopuopop", "uuuuuuuuuuuuuuup"} {
		s := drawn(t, full)
		wantNoAlloc(t, full, s, api.ErrFull)
		wantLook(t, "refused", s, full)
	}
}

// P10.2: Give of a page in each state, at each place.
func TestGive(t *testing.T) {
	for _, pages := range []int{8, 9, 10, 15, 16, 17, 24, 40} {
		for _, others := range letters {
			for page := 2; page < pages; page++ {
				base := "uu" + strings.Repeat(string(others), pages-2)
				for _, x := range []struct {
					is, becomes byte
					says        api.Errno
				}{
					{'u', 'p', api.OK},
					{'o', '.', api.OK},
					{'p', 'p', api.ErrState},
					{'.', '.', api.ErrState},
				} {
					picture := put(base, page, x.is)
					s := drawn(t, picture)
					what := fmt.Sprintf("Give(%d) of %s", page, picture)
					wantSays(t, what, s.Give(page), x.says)
					wantLook(t, what, s, put(base, page, x.becomes))
					wantSays(t, what+" again", s.Give(page), api.ErrState)
					wantLook(t, what+" again", s, put(base, page, x.becomes))
				}
			}
		}
	}
}

// P10.2: Give of what is no page that can be given up: the superblocks, below them, and behind the last page.
func TestGiveOfNone(t *testing.T) {
	r := rand.New(rand.NewSource(3))
	for _, pages := range someCounts {
		for _, among := range []string{".", "u", "o", "p", letters} {
			picture := mixed(r, pages, among)
			s := drawn(t, picture)
			for _, page := range append([]int{0, 1, pages, pages + 1, pages + 7, pages + 8, 8 * pages}, farPages...) {
				if page >= 2 && page < pages {
					continue
				}
				wantSays(t, fmt.Sprintf("Give(%d) of %d", page, pages), s.Give(page), api.ErrArg)
			}
			wantLook(t, "refused", s, picture)
		}
	}
	for _, pages := range someCounts {
		s := drawn(t, strings.Repeat("u", pages))
		wantSays(t, "the first", s.Give(2), api.OK)
		wantSays(t, "the last", s.Give(pages-1), api.OK)
		wantLook(t, "both", s, put(put(strings.Repeat("u", pages), 2, 'p'), pages-1, 'p'))
	}
}

// P10.2: Commit, Doubt and Abort, with and without own and pending pages; written out.
func TestEnds(t *testing.T) {
	for _, x := range []struct{ ahead, commit, doubt, abort string }{
		{"uu......", "uu......", "uu......", "uu......"},
		{"uuuuuuuu", "uuuuuuuu", "uuuuuuuu", "uuuuuuuu"},
		{"uuu.u..u", "uuu.u..u", "uuu.u..u", "uuu.u..u"},
		{"uuoooooo", "uuuuuuuu", "uuuuuuuu", "uu......"},
		{"uupppppp", "uu......", "uupppppp", "uuuuuuuu"},
		{"uuuo.o.uo", "uuuu.u.uu", "uuuu.u.uu", "uuu....u."},
		{"uuup.p.up", "uuu....u.", "uuup.p.up", "uuuu.u.uu"},
		{"uuop.uoop", "uuu..uuu.", "uuup.uuup", "uu.u.u..u"},
		{"uupoupo..u", "uu.uu.u..u", "uupuupu..u", "uuu.uu...u"},
	} {
		s := drawn(t, x.ahead)
		s.Commit()
		wantLook(t, "Commit of "+x.ahead, s, x.commit)
		s = drawn(t, x.ahead)
		s.Doubt()
		wantLook(t, "Doubt of "+x.ahead, s, x.doubt)
		s = drawn(t, x.ahead)
		s.Abort()
		wantLook(t, "Abort of "+x.ahead, s, x.abort)
	}
}

// P10.2: one end behind another, in all rows of four, of pages in all states.
func TestRowsOfEnds(t *testing.T) {
	r := rand.New(rand.NewSource(4))
	for row := range 3 * 3 * 3 * 3 {
		for _, pages := range []int{8, 13, 16, 21, 100} {
			for _, among := range []string{"o", "p", "op", letters} {
				want := mixed(r, pages, among)
				s := drawn(t, want)
				what := want
				for left, i := row, 0; i < 4; left, i = left/3, i+1 {
					end := ends[left%3]
					end.do(s)
					want = end.turn.Replace(want)
					what += ", " + end.name
					wantLook(t, what, s, want)
				}
			}
		}
	}
}

// P10.2: what is given up and taken behind each end; what was Doubted is used, and pending when it is given up.
func TestBehindEnds(t *testing.T) {
	for _, x := range []struct {
		name  string
		do    func(*space.Space)
		gives string // p: a page, from 2 on, that can be given up, and is pending then
		taken int
	}{
		{"Commit", (*space.Space).Commit, "pp  ", 4},
		{"Doubt", (*space.Space).Doubt, "pp  ", 5},
		{"Abort", (*space.Space).Abort, "p p ", 3},
	} {
		s := drawn(t, "uuuop.uuuu")
		x.do(s)
		for i := range x.gives {
			want, c := api.ErrState, s.Clone()
			if x.gives[i] == 'p' {
				want = api.OK
			}
			wantSays(t, fmt.Sprintf("%s, Give(%d)", x.name, 2+i), c.Give(2+i), want)
			if want == api.OK && (!c.Used(2+i) || c.Own(2+i)) {
				t.Errorf("%s, Give(%d): it is not pending", x.name, 2+i)
			}
		}
		wantAlloc(t, x.name, s, x.taken)
		if !s.Own(x.taken) {
			t.Errorf("%s: page %d is not own", x.name, x.taken)
		}
	}
}

// P10.3: Used and Own of what is no page, whatever the pages are.
func TestOfNoPage(t *testing.T) {
	r := rand.New(rand.NewSource(5))
	for _, pages := range someCounts {
		for _, among := range []string{".", "u", "o", "p", letters} {
			s := drawn(t, mixed(r, pages, among))
			for _, page := range append([]int{-pages, pages, pages + 1, pages + 7, pages + 8, 2 * pages}, farPages...) {
				if page >= 0 && page < pages {
					continue
				}
				if s.Used(page) || s.Own(page) {
					t.Errorf("page %d of %d: used %v, own %v", page, pages, s.Used(page), s.Own(page))
				}
			}
		}
	}
}

// P10.3: Free, Used, Own and Bits of pages in all states; written out.
func TestTold(t *testing.T) {
	s := drawn(t, "uuop..upo.")
	for page, want := range []struct{ used, own bool }{{true, false}, {true, false}, {true, true}, {true, false}, {}, {}, {true, false}, {true, false}, {true, true}, {}} {
		if s.Used(page) != want.used || s.Own(page) != want.own {
			t.Errorf("page %d: used %v, own %v, want %v", page, s.Used(page), s.Own(page), want)
		}
	}
	if n, b := s.Free(), s.Bits(); n != 3 || !bytes.Equal(b, []byte{64 + 4 + 3, 1}) {
		t.Errorf("%d free, bits %v", n, b)
	}
}

// P10.3: Bits tells what is used behind a Commit, and Load of it makes that very space.
func TestBits(t *testing.T) {
	r := rand.New(rand.NewSource(6))
	for _, pages := range someCounts {
		for range 8 {
			picture := mixed(r, pages, letters)
			s := drawn(t, picture)
			bits := s.Bits()
			if again := s.Bits(); !bytes.Equal(bits, again) {
				t.Errorf("Bits: %v, then %v", bits, again)
			}
			wantLook(t, "Bits was asked", s, picture)
			s.Commit()
			for page := range pages {
				if set := bits[page/8]&(1<<(page%8)) != 0; set != s.Used(page) {
					t.Errorf("%d pages: bit of page %d %v, but used %v", pages, page, set, s.Used(page))
				}
			}
			l, e := space.Load(pages, bits)
			wantMade(t, "Load of Bits", l, e, look(t, "Commit", s, pages))
		}
	}
}

// shake does something of all kinds.
func shake(r *rand.Rand, s *space.Space, pages int) {
	for range 20 {
		switch r.Intn(8) {
		case 0, 1, 2:
			s.Alloc()
		case 3, 4:
			s.Give(r.Intn(pages))
		default:
			ends[r.Intn(3)].do(s)
		}
	}
}

// P10.3: a Clone is as what it was made of, also for all that comes, and neither changes the other.
func TestClone(t *testing.T) {
	r := rand.New(rand.NewSource(7))
	for range 10 {
		for _, pages := range someCounts {
			picture := mixed(r, pages, letters)
			s := drawn(t, picture)
			c := s.Clone()
			if c == s || c == nil {
				t.Fatal("Clone answers no other space")
			}
			wantLook(t, "a clone", c, picture)
			for _, end := range ends {
				d := s.Clone()
				end.do(d)
				wantLook(t, end.name+" of a clone", d, end.turn.Replace(picture))
			}
			wantLook(t, "its clones were ended", s, picture)
			shake(r, s, pages)
			wantLook(t, "a clone of what was changed", c, picture)
			now := look(t, "changed", s, pages)
			shake(r, c, pages)
			wantLook(t, "its clone was changed", s, now)
			c = c.Clone().Clone()
			s.Abort()
			ended := look(t, "aborted", s, pages)
			shake(r, c, pages)
			wantLook(t, "a clone's clone was changed", s, ended)
		}
	}
}

// R7: of no space, and of one that no call made.
func TestNoSpace(t *testing.T) {
	for name, s := range map[string]*space.Space{"nil": nil, "empty": {}} {
		for range 2 {
			for _, page := range append([]int{0, 1, 2, 7, 8}, farPages...) {
				wantSays(t, name, s.Give(page), api.ErrState)
				if s.Used(page) || s.Own(page) {
					t.Errorf("%s: page %d: used %v, own %v", name, page, s.Used(page), s.Own(page))
				}
			}
			wantNoAlloc(t, name, s, api.ErrState)
			if n, b := s.Free(), s.Bits(); n != 0 || len(b) != 0 {
				t.Errorf("%s: %d free, bits %v", name, n, b)
			}
			if c := s.Clone(); c != nil {
				t.Errorf("%s: Clone = %v", name, c)
			}
			for _, end := range ends {
				end.do(s)
			}
		}
	}
}

func spoil(b []byte) {
	b = b[:cap(b)]
	for i := range b {
		b[i] ^= 255
	}
}

// R4: what is handed in is not changed, its spare room neither, and not kept.
func TestHandedIn(t *testing.T) {
	r := rand.New(rand.NewSource(8))
	for _, pages := range someCounts {
		picture := mixed(r, pages, "u.")
		in := laid(picture, "u")
		around := append(append([]byte{170, 85}, in...), 170, 85)
		before := bytes.Clone(around)
		s, e := space.Load(pages, around[2:2+len(in)])
		wantMade(t, "Load", s, e, picture)
		c := s.Clone()
		shake(r, s, pages)
		shake(r, c, pages)
		if !bytes.Equal(around, before) {
			t.Errorf("%d pages: what is handed in was changed", pages)
		}
		pictures := [2]string{look(t, "changed", s, pages), look(t, "changed", c, pages)}
		spoil(around)
		wantLook(t, "what was handed in is spoiled", s, pictures[0])
		wantLook(t, "what was handed in is spoiled", c, pictures[1])
		s.Abort()
		clean := look(t, "aborted", s, pages)
		spoil(around)
		s.Abort()
		wantLook(t, "what was handed in is spoiled again", s, clean)
		if l, e := space.Load(pages, around[2:2+len(in):2+len(in)]); l == nil || e != api.OK {
			t.Errorf("%d pages: Load = %v, %v of what was turned twice", pages, l, e)
		}
	}
}

// R4: what is handed out is new memory, its spare room too.
func TestHandedOut(t *testing.T) {
	r := rand.New(rand.NewSource(9))
	for _, pages := range someCounts {
		picture := mixed(r, pages, letters)
		s := drawn(t, picture)
		one, two := s.Bits(), s.Bits()
		spoil(one)
		if !bytes.Equal(two, laid(picture, "uo")) {
			t.Errorf("%d pages: two answers share memory", pages)
		}
		wantLook(t, "an answer was spoiled", s, picture)
		for _, end := range ends {
			c := s.Clone()
			spoil(c.Bits())
			end.do(c)
			wantLook(t, "an answer was spoiled, "+end.name, c, end.turn.Replace(picture))
		}
		shake(r, s, pages)
		if !bytes.Equal(two, laid(picture, "uo")) {
			t.Errorf("%d pages: the space writes into what it handed out", pages)
		}
	}
}

// R5: two spaces have nothing in common, and the same calls make the same space.
func TestTwoSpaces(t *testing.T) {
	for _, pages := range someCounts {
		a, _ := space.New(pages)
		b, _ := space.New(pages)
		shake(rand.New(rand.NewSource(10)), a, pages)
		wantLook(t, "the other", b, "uu"+strings.Repeat(".", pages-2))
		now := look(t, "the first", a, pages)
		shake(rand.New(rand.NewSource(10)), b, pages)
		wantLook(t, "the same calls", b, now)
		wantLook(t, "the first", a, now)
	}
}

// P10.4: no page that is used or pending is told by Alloc; behind Abort all is as at the last Commit or Doubt, but what was Doubted is used.
func TestWhatFollows(t *testing.T) {
	doubted := strings.NewReplacer("o", "u", "p", "u")
	for seed := range 200 {
		r := rand.New(rand.NewSource(int64(seed)))
		pages := 8 + r.Intn(30)
		back := mixed(r, pages, "u.")
		s := drawn(t, back)
		s.Commit()
		for step := range 300 {
			what := fmt.Sprintf("seed %d, step %d", seed, step)
			ahead := look(t, what, s, pages)
			switch n := r.Intn(30); {
			case n < 14:
				if page, e := s.Alloc(); e == api.OK && (page < 0 || page >= pages || ahead[page] != '.') {
					t.Fatalf("%s: Alloc = %d of %s", what, page, ahead)
				}
			case n < 26:
				s.Give(r.Intn(pages))
			case n < 27:
				s.Commit()
				back = look(t, what, s, pages)
			case n < 28:
				s.Doubt()
				back = doubted.Replace(ahead)
			default:
				s.Abort()
				if got := look(t, what, s, pages); got != back {
					t.Fatalf("%s: behind Abort %s, want %s", what, got, back)
				}
			}
		}
	}
}

// model is the chapter again, by another way: a letter for each page, and what each call makes of it.
type model string

func (m model) alloc() (model, int, api.Errno) {
	page := strings.IndexByte(string(m), '.')
	if page < 0 {
		return m, 0, api.ErrFull
	}
	return model(put(string(m), page, 'o')), page, api.OK
}

func (m model) give(page int) (model, api.Errno) {
	if page < 2 || page >= len(m) {
		return m, api.ErrArg
	}
	switch m[page] {
	case 'o':
		return model(put(string(m), page, '.')), api.OK
	case 'u':
		return model(put(string(m), page, 'p')), api.OK
	}
	return m, api.ErrState
}

// step does one call to both: below 3 an end, 3 Alloc, above it Give of a page.
func (m model) step(t *testing.T, what string, s *space.Space, call int) (model, string) {
	t.Helper()
	switch {
	case call < 3:
		what += ", " + ends[call].name
		ends[call].do(s)
		m = model(ends[call].turn.Replace(string(m)))
	case call == 3:
		what += ", Alloc"
		page, e := s.Alloc()
		next, want, says := m.alloc()
		if page != want || e != says {
			t.Fatalf("%s: %d, %v, want %d, %v", what, page, e, want, says)
		}
		m = next
	default:
		what += fmt.Sprintf(", Give(%d)", call-4)
		next, says := m.give(call - 4)
		if e := s.Give(call - 4); e != says {
			t.Fatalf("%s: %v, want %v", what, e, says)
		}
		m = next
	}
	if got := look(t, what, s, len(m)); got != string(m) {
		t.Fatalf("%s: %s, want %s", what, got, m)
	}
	return m, what
}

// P10.1 to P10.4: all rows of six calls on three pages, the last ones of a space.
func TestAllRows(t *testing.T) {
	calls := []int{0, 1, 2, 3, 4 + 5, 4 + 6, 4 + 7}
	var rows func(m model, s *space.Space, what string, left int)
	rows = func(m model, s *space.Space, what string, left int) {
		if left == 0 {
			return
		}
		for _, call := range calls {
			c := s.Clone()
			next, did := m.step(t, what, c, call)
			rows(next, c, did, left-1)
		}
	}
	for _, first := range []string{"uuuuu...", "uuuuuu.u", "uuuuuuuu"} {
		rows(model(first), drawn(t, first), first, 6)
	}
}

// P10.1 to P10.4: long rows of calls, also with pages that are none.
func TestAsTheModel(t *testing.T) {
	for seed := range 150 {
		r := rand.New(rand.NewSource(int64(seed)))
		pages := 8 + r.Intn(60)
		if seed%10 == 0 {
			pages = someCounts[seed/10%len(someCounts)]
		}
		m := model(mixed(r, pages, []string{".", "u.", "uuuu.", "u"}[seed%4]))
		s := drawn(t, string(m))
		s.Commit()
		m = model(ends[0].turn.Replace(string(m)))
		for step := range 300 {
			call := 4 + r.Intn(pages+4) - 2
			switch {
			case r.Intn(2) == 0:
				call = 3
			case r.Intn(15) == 0:
				call = r.Intn(3)
			case call < 4:
				wantSays(t, "below 0", s.Give(call-4), api.ErrArg)
				continue
			}
			m, _ = m.step(t, fmt.Sprintf("seed %d, step %d", seed, step), s, call)
		}
	}
}

// The greatest space, all of it taken, committed, given up and taken anew.
func TestGreatest(t *testing.T) {
	s, e := space.New(api.MaxPages)
	wantSays(t, "New", e, api.OK)
	for page := 2; page < api.MaxPages; page++ {
		wantAlloc(t, "taken", s, page)
	}
	wantNoAlloc(t, "taken", s, api.ErrFull)
	s.Commit()
	order := rand.New(rand.NewSource(11)).Perm(api.MaxPages)
	var given []int
	for _, page := range order[:1000] {
		if page >= 2 {
			wantSays(t, "given up", s.Give(page), api.OK)
			given = append(given, page)
		}
	}
	wantNoAlloc(t, "pending", s, api.ErrFull)
	s.Commit()
	slices.Sort(given)
	for _, page := range given {
		wantAlloc(t, "taken anew", s, page)
	}
	wantNoAlloc(t, "taken anew", s, api.ErrFull)
	s.Abort()
	if n := s.Free(); n != len(given) {
		t.Errorf("behind Abort %d are free, want %d", n, len(given))
	}
}
