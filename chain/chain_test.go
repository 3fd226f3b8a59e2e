package chain_test

import (
	"bytes"
	"encoding/binary"
	"fmt"
	"hash/crc32"
	"math"
	"math/rand"
	"slices"
	"testing"

	"escritoire/api"
	"escritoire/chain"
	"escritoire/page"
)

// The numbers are written out here, so that they do not change with the program's own.
const (
	room  = 244  // bytes of a page
	least = 2    // of the pages' numbers
	most  = 4095 // of the pages' numbers
	all   = 4094 // how many such numbers there are
)

// mixed are n bytes, none of them nought, so that one that is missing or at a wrong place shows.
func mixed(n int) []byte {
	r := rand.New(rand.NewSource(int64(n)))
	b := make([]byte, n)
	for i := range b {
		b[i] = byte(1 + r.Intn(255))
	}
	return b
}

// pagesFor are as many pages as n bytes need, counted by taking bytes away: no two alike, now up, now down.
func pagesFor(n int) []int {
	count := 0
	for ; n > 0; n -= room {
		count++
	}
	l := rand.New(rand.NewSource(int64(count))).Perm(all)[:count:count]
	for i := range l {
		l[i] += least
	}
	return l
}

// sheet lays a page's parts and sums them by the library, whatever they are.
func sheet(kind, level, count int, body []byte) []byte {
	b := []byte{byte(kind), byte(level), byte(count >> 8), byte(count)}
	b = append(b, body...)
	b = append(b, make([]byte, 252-len(b))...)
	return append(binary.BigEndian.AppendUint32(nil, crc32.ChecksumIEEE(b)), b...)
}

// led is a Body: the next one's page, whatever it is, and bytes.
func led(next uint32, x []byte) []byte {
	return append(binary.BigEndian.AppendUint32(nil, next), x...)
}

// link is the page of x that leads on to next, whether it may be or not.
func link(next int, x []byte) []byte {
	return sheet(api.KindBlob, 0, len(x), led(uint32(next), x))
}

// model are the pages of b, made from the last one on.
func model(b []byte, pages []int) [][]byte {
	l := make([][]byte, len(pages))
	next := 0
	for i := len(pages) - 1; i >= 0; i-- {
		l[i] = link(next, b[room*i:min(len(b), room*(i+1))])
		next = pages[i]
	}
	return l
}

func sameSheets(a, b [][]byte) bool {
	return slices.EqualFunc(a, b, bytes.Equal)
}

// wantCut: P11.1: the pages are as the chapter says.
func wantCut(t *testing.T, b []byte, pages []int) [][]byte {
	t.Helper()
	l, e := chain.Cut(b, pages)
	if e != api.OK || !sameSheets(l, model(b, pages)) {
		t.Fatalf("Cut of %d bytes on %v = %v, %v", len(b), pages, l, e)
	}
	return l
}

// noCut: R2, no pages beside the error.
func noCut(t *testing.T, what string, b []byte, pages []int) {
	t.Helper()
	if l, e := chain.Cut(b, pages); e != api.ErrArg || len(l) != 0 {
		t.Errorf("%s: Cut of %d bytes on %d pages = %d pages, %v, want none, ErrArg", what, len(b), len(pages), len(l), e)
	}
}

func wantPart(t *testing.T, b, x []byte, next int) {
	t.Helper()
	if got, to, e := chain.Part(b); e != api.OK || to != next || !bytes.Equal(got, x) {
		t.Errorf("Part = %v, %d, %v, want %v, %d, OK", got, to, e, x, next)
	}
}

// noPart: R2, zero values beside the error.
func noPart(t *testing.T, what string, b []byte, want api.Errno) {
	t.Helper()
	if x, next, e := chain.Part(b); e != want || next != 0 || len(x) != 0 {
		t.Errorf("%s: Part = %v, %d, %v, want none, 0, %v", what, x, next, e, want)
	}
}

// readOn reads from the first page on what stands on disk, till a page leads nowhere.
func readOn(t *testing.T, disk map[int][]byte, first int) []byte {
	t.Helper()
	var b []byte
	for steps := 0; first != 0; steps++ {
		x, next, e := chain.Part(disk[first])
		if e != api.OK || steps > len(disk) {
			t.Fatalf("step %d, page %d: %v", steps, first, e)
		}
		b = append(b, x...)
		first = next
	}
	return b
}

// lay puts sheets on a disk, each at its page.
func lay(disk map[int][]byte, pages []int, sheets [][]byte) {
	for i, n := range pages {
		disk[n] = sheets[i]
	}
}

// wantRead: P11.2: read on from page to page, the parts are b.
func wantRead(t *testing.T, b []byte, pages []int, sheets [][]byte) {
	t.Helper()
	if len(pages) == 0 {
		return
	}
	disk := map[int][]byte{}
	lay(disk, pages, sheets)
	if got := readOn(t, disk, pages[0]); !bytes.Equal(got, b) {
		t.Errorf("read on from %d: %d bytes, other than the %d that were cut", pages[0], len(got), len(b))
	}
	if _, next, e := chain.Part(sheets[len(sheets)-1]); next != 0 || e != api.OK {
		t.Errorf("the last one leads to %d, %v", next, e)
	}
}

func TestExamples(t *testing.T) {
	if a, b, c := chain.Need(0), chain.Need(244), chain.Need(245); a != 0 || b != 1 || c != 2 {
		t.Errorf("Need = %d, %d, %d, want 0, 1, 2", a, b, c)
	}
	l, e := chain.Cut(mixed(245), []int{5, 9})
	if e != api.OK || len(l) != 2 {
		t.Fatalf("%d pages, %v, want 2", len(l), e)
	}
	if _, next, e := chain.Part(l[0]); next != 9 || e != api.OK {
		t.Errorf("the first one leads to %d, %v, want 9", next, e)
	}
}

// P11.1: Need at each edge, and at each number up to many pages.
func TestNeed(t *testing.T) {
	edges := []struct{ n, want int }{
		{math.MinInt, 0}, {math.MinInt + 1, 0}, {math.MinInt + 243, 0}, {-1 << 62, 0}, {-1 << 32, 0}, {-489, 0}, {-245, 0}, {-244, 0}, {-243, 0}, {-1, 0},
		{0, 0}, {1, 1}, {243, 1}, {244, 1}, {245, 2}, {487, 2}, {488, 2}, {489, 3},
		{998936, 4094}, {998937, 4095}, {api.MaxBlob, 4298}, {api.MaxBlob + 1, 4298}, {1<<31 - 1, 8801163}, {1 << 32, 17602325},
		{1 << 62, 18900352534538476}, {math.MaxInt - 251, 37800705069076949}, {math.MaxInt - 250, 37800705069076950}, {math.MaxInt - 244, 37800705069076950}, {math.MaxInt - 243, 37800705069076950},
		{math.MaxInt - 7, 37800705069076950}, {math.MaxInt - 6, 37800705069076951}, {math.MaxInt - 1, 37800705069076951}, {math.MaxInt, 37800705069076951},
	}
	for _, x := range edges {
		if got := chain.Need(x.n); got != x.want {
			t.Errorf("Need(%d) = %d, want %d", x.n, got, x.want)
		}
	}
	want, left := 0, 0
	for n := range 20 * room * 10 {
		if got := chain.Need(n); got != want {
			t.Fatalf("Need(%d) = %d, want %d", n, got, want)
		}
		if left == 0 {
			want, left = want+1, room
		}
		left--
	}
}

// P11.1: what follows from "n by 244, rounded up" for numbers of every size: no page less has room, and that many have.
func TestNeedHasRoom(t *testing.T) {
	r := rand.New(rand.NewSource(11))
	for range 20000 {
		n := int(r.Int63() >> r.Intn(63))
		got := uint64(chain.Need(n))
		if got*room < uint64(n) || got > 0 && (got-1)*room >= uint64(n) {
			t.Fatalf("Need(%d) = %d", n, got)
		}
		if chain.Need(-n) != 0 {
			t.Fatalf("Need(%d) = %d", -n, chain.Need(-n))
		}
	}
}

// P11.1: each number at its place, in bytes that are written out here.
func TestPlaces(t *testing.T) {
	b := append(mixed(room), 7, 0, 255, 10)
	l, e := chain.Cut(b, []int{2, 0x0E0D})
	if e != api.OK || len(l) != 2 {
		t.Fatalf("%d pages, %v", len(l), e)
	}
	wantLaid(t, l[0], append([]byte{5, 0, 0, 244, 0, 0, 14, 13}, mixed(room)...))
	wantLaid(t, l[1], []byte{5, 0, 0, 4, 0, 0, 0, 0, 7, 0, 255, 10})
}

// wantLaid: behind the Crc stands what is asked, and behind it noughts.
func wantLaid(t *testing.T, b, want []byte) {
	t.Helper()
	if len(b) != api.PageSize {
		t.Fatalf("%d bytes", len(b))
	}
	end := 4 + len(want)
	if !bytes.Equal(b[4:end], want) {
		t.Errorf("ahead stand %v, want %v", b[4:end], want)
	}
	if !bytes.Equal(b[end:], make([]byte, api.PageSize-end)) {
		t.Errorf("behind stand %v, want noughts", b[end:])
	}
	if got, want := binary.BigEndian.Uint32(b), crc32.ChecksumIEEE(b[4:]); got != want {
		t.Errorf("the Crc is %x, want %x", got, want)
	}
}

// P11.1, P11.2: every length up to some pages, bytes of all kinds, pages in any order.
func TestLengths(t *testing.T) {
	for n := range 6*room + 3 {
		for _, b := range [][]byte{mixed(n), make([]byte, n), bytes.Repeat([]byte{255}, n)} {
			pages := pagesFor(n)
			wantRead(t, b, pages, wantCut(t, b, pages))
		}
	}
	for _, n := range []int{20*room - 1, 20 * room, 20*room + 1, 1000*room - 1, 1000 * room, 1000*room + 1} {
		pages := pagesFor(n)
		for range 2 {
			wantRead(t, mixed(n), pages, wantCut(t, mixed(n), pages))
			slices.Sort(pages)
		}
		slices.Reverse(pages)
		wantRead(t, mixed(n), pages, wantCut(t, mixed(n), pages))
	}
}

// P11.1: no bytes are on no pages; R4: nil and an empty list are one, whatever room is behind it.
func TestNothing(t *testing.T) {
	for _, b := range [][]byte{nil, {}, mixed(9)[:0]} {
		for _, pages := range [][]int{nil, {}, []int{5, 9}[:0]} {
			if l, e := chain.Cut(b, pages); e != api.OK || len(l) != 0 {
				t.Errorf("Cut of nothing = %v, %v, want none, OK", l, e)
			}
		}
		for _, pages := range [][]int{{5}, {5, 9}, {0}, {1}, {-1}, {4096}} {
			noCut(t, fmt.Sprint("no bytes on ", pages), b, pages)
		}
	}
	for _, pages := range [][]int{nil, {}, []int{5, 9}[:0]} {
		noCut(t, "no pages", mixed(1), pages)
		noCut(t, "no pages", mixed(room+1), pages)
	}
}

// P11.1: pages less and more than are needed, though each of them may be.
func TestHowManyPages(t *testing.T) {
	for _, n := range []int{1, 2, 243, 244, 245, 246, 487, 488, 489, 732, 733, 9999} {
		right := pagesFor(n)
		wantCut(t, mixed(n), right)
		for count := range len(right) {
			noCut(t, "pages less", mixed(n), right[:count])
		}
		for more := 1; more < 4; more++ {
			noCut(t, "pages more", mixed(n), pagesFor(n+more*room))
		}
	}
}

// wild may never be pages, though the lowest bytes of some of them may.
var wild = []int{math.MinInt, math.MinInt + 5, -1 << 62, -1<<32 + 5, -65536 + 5, -4096 + 5, -4095, -5, -2, -1, 0, 1, 4096, 4097, 4096 + 5, 65535, 65536 + 5, 1<<31 + 5, 1<<32 + 5, 1<<60 + 5, 1 << 62, math.MaxInt - 1, math.MaxInt}

// P11.1: the pages' numbers at their edges, at each place among others that may be.
func TestPageNumbers(t *testing.T) {
	for count := 1; count <= 5; count++ {
		b := mixed(count*room - 3)
		for at := range count {
			pages := []int{1000, 30, 2000, 7, 4000}[:count:count]
			for _, n := range []int{2, 3, 255, 256, 4094, 4095} {
				pages[at] = n
				wantRead(t, b, pages, wantCut(t, b, pages))
			}
			for _, n := range wild {
				pages[at] = n
				noCut(t, fmt.Sprint("page ", n, " at ", at), b, pages)
			}
		}
	}
	for _, n := range wild {
		noCut(t, fmt.Sprint("twice ", n), mixed(2*room), []int{n, n})
	}
}

// P11.1: each two places of several pages with one number, side by side and apart.
func TestPagesAlike(t *testing.T) {
	for _, count := range []int{2, 3, 4, 9, 30} {
		b := mixed(count * room)
		for i := range count {
			for k := range i {
				for _, n := range []int{2, 700, 4095} {
					pages := pagesFor(len(b))
					pages[i], pages[k] = n, n
					noCut(t, fmt.Sprint(n, " at ", k, " and ", i), b, pages)
				}
			}
		}
		noCut(t, "all alike", b, slices.Repeat([]int{5}, count))
	}
	b := mixed(all * room)
	for _, at := range [][2]int{{0, all - 1}, {all - 1, 0}, {0, 1}, {all - 2, all - 1}, {5, 3000}} {
		pages := pagesFor(len(b))
		pages[at[0]] = pages[at[1]]
		noCut(t, fmt.Sprint("alike at ", at), b, pages)
	}
}

// P11.1, P11.2: all pages that there are, as a chain.
func TestGreatestChain(t *testing.T) {
	for _, n := range []int{all*room - room + 1, all*room - 1, all * room} {
		pages := pagesFor(n)
		wantRead(t, mixed(n), pages, wantCut(t, mixed(n), pages))
	}
	up := make([]int, all)
	for i := range up {
		up[i] = least + i
	}
	wantRead(t, mixed(all*room), up, wantCut(t, mixed(all*room), up))
	slices.Reverse(up)
	wantRead(t, mixed(all*room), up, wantCut(t, mixed(all*room), up))
}

// P11.1, R6: ErrArg comes ahead of ErrLong: for so many bytes there are no pages that are all different and may be.
func TestLongBlobs(t *testing.T) {
	for _, n := range []int{all*room + 1, api.MaxBlob - 1, api.MaxBlob, api.MaxBlob + 1, api.MaxBlob + 2, 2 * api.MaxBlob} {
		need := chain.Need(n)
		again := make([]int, need)
		for i := range again {
			again[i] = least + i%all
		}
		up := make([]int, need)
		for i := range up {
			up[i] = least + i
		}
		b := make([]byte, n)
		noCut(t, "pages used again", b, again)
		noCut(t, "pages past the last", b, up)
		noCut(t, "pages alike", b, slices.Repeat([]int{5}, need))
		noCut(t, "pages of noughts", b, make([]int, need))
		noCut(t, "all pages", b, up[:all])
		noCut(t, "one page less", b, again[:need-1])
		noCut(t, "one page more", b, append(again, 9))
		noCut(t, "no pages", b, nil)
	}
}

// P11.1: what is made is a page that page.Open takes, of its Kind, Level and Count.
func TestPages(t *testing.T) {
	b := mixed(2*room + 60)
	l, _ := chain.Cut(b, []int{5, 9, 4})
	for i, want := range []api.Page{
		{Count: room, Body: led(9, b[:room])},
		{Count: room, Body: led(4, b[room:2*room])},
		{Count: 60, Body: append(led(0, b[2*room:]), make([]byte, room-60)...)},
	} {
		p, e := page.Open(l[i])
		if e != api.OK || p.Kind != api.KindBlob || p.Level != 0 || p.Count != want.Count || !bytes.Equal(p.Body, want.Body) {
			t.Errorf("page %d is %+v, %v", i, p, e)
		}
	}
}

// P11.1: a page that leads nowhere may have each Count from 1 to 244.
func TestLastPages(t *testing.T) {
	for n := 1; n <= room; n++ {
		wantPart(t, link(0, mixed(n)), mixed(n), 0)
		wantPart(t, link(0, make([]byte, n)), make([]byte, n), 0)
	}
}

// P11.1: a part's own noughts are its bytes, by its Count alone.
func TestPartOfNoughts(t *testing.T) {
	for n := 1; n <= room; n++ {
		x := append([]byte{5}, make([]byte, n-1)...)
		wantPart(t, sheet(api.KindBlob, 0, n, led(0, []byte{5})), x, 0)
	}
	wantPart(t, sheet(api.KindBlob, 0, room, led(9, nil)), make([]byte, room), 9)
}

// P11.1: a Count of 0 and one past 244, whatever the next one, and whatever stands there.
func TestCounts(t *testing.T) {
	for _, n := range []int{0, 245, 246, 247, 248, 249, 252, 255, 256, 257, 256 + 244, 65535} {
		for _, next := range []uint32{0, 2, 9, 4095} {
			noPart(t, fmt.Sprint("Count ", n, " of bytes"), sheet(api.KindBlob, 0, n, led(next, mixed(room))), api.ErrForm)
			noPart(t, fmt.Sprint("Count ", n, " of noughts"), sheet(api.KindBlob, 0, n, led(next, nil)), api.ErrForm)
		}
	}
	for n := range room {
		noPart(t, fmt.Sprint("Count ", n, " of all bytes"), sheet(api.KindBlob, 0, n, led(0, mixed(room))), api.ErrForm)
	}
}

// P11.1: each next one, of a page that has all its bytes.
func TestNextPages(t *testing.T) {
	x := mixed(room)
	wantPart(t, link(0, x), x, 0)
	for next := least; next <= most; next++ {
		wantPart(t, link(next, x), x, next)
	}
	for _, next := range []uint32{1, 4096, 4097, 4098, 8191, 8192 + 2, 32768, 65535, 65536, 65536 + 2, 1 << 24, 1<<24 + 2, 1<<31 - 1, 1 << 31, 1<<31 + 2, 1<<32 - 2, 1<<32 - 1} {
		noPart(t, fmt.Sprint("next ", next), sheet(api.KindBlob, 0, room, led(next, x)), api.ErrForm)
		noPart(t, fmt.Sprint("next ", next, ", last"), sheet(api.KindBlob, 0, 9, led(next, mixed(9))), api.ErrForm)
	}
	for bit := 12; bit < 32; bit++ {
		for _, low := range []uint32{0, 1, 2, 4095} {
			noPart(t, fmt.Sprint("next with bit ", bit), sheet(api.KindBlob, 0, room, led(1<<bit|low, x)), api.ErrForm)
		}
	}
}

// P11.1: a page that leads on has 244 bytes, no less.
func TestNextPageAndCount(t *testing.T) {
	for n := range room {
		for _, next := range []int{1, 2, 3, 9, 256, 4094, 4095, 4096} {
			noPart(t, fmt.Sprint("next ", next, ", Count ", n), link(next, mixed(n)), api.ErrForm)
		}
	}
}

// P11.1: a byte behind the part, at each place.
func TestTails(t *testing.T) {
	for _, n := range []int{1, 2, 3, 100, 242, 243} {
		for at := n; at < room; at++ {
			for _, x := range []byte{1, 128, 255} {
				body := led(0, append(mixed(n), make([]byte, room-n)...))
				body[4+at] = x
				noPart(t, fmt.Sprint(n, " bytes, byte ", x, " at ", at), sheet(api.KindBlob, 0, n, body), api.ErrForm)
			}
		}
	}
}

// P11.1: each other Kind, and each Level that is not 0.
func TestKindsAndLevels(t *testing.T) {
	for kind := range 256 {
		for _, level := range []int{0, 1} {
			if kind == api.KindBlob && level == 0 {
				continue
			}
			what := fmt.Sprint("Kind ", kind, ", Level ", level)
			noPart(t, what, sheet(kind, level, room, led(9, mixed(room))), api.ErrForm)
			noPart(t, what, sheet(kind, level, 3, led(0, mixed(3))), api.ErrForm)
		}
	}
	for level := 1; level < 256; level++ {
		noPart(t, fmt.Sprint("Level ", level), sheet(api.KindBlob, level, room, led(9, mixed(room))), api.ErrForm)
		noPart(t, fmt.Sprint("Level ", level), sheet(api.KindBlob, level, 3, led(0, mixed(3))), api.ErrForm)
	}
}

// P11.1: any other number of bytes than PageSize is page.Open's ErrArg.
func TestTooFewAndTooMany(t *testing.T) {
	noPart(t, "nil", nil, api.ErrArg)
	noPart(t, "empty", []byte{}, api.ErrArg)
	long := append(link(9, mixed(room)), link(0, mixed(9))...)
	for n := range len(long) + 1 {
		if n != api.PageSize {
			noPart(t, fmt.Sprint(n, " bytes"), long[:n], api.ErrArg)
		}
	}
}

// P11.1: every bit that is turned is page.Open's ErrSum; so are 256 noughts.
func TestTurnedBits(t *testing.T) {
	noPart(t, "noughts", make([]byte, api.PageSize), api.ErrSum)
	for _, b := range [][]byte{link(9, mixed(room)), link(0, mixed(room)), link(0, mixed(60))} {
		for bit := range 8 * api.PageSize {
			b[bit/8] ^= 1 << (bit % 8)
			noPart(t, fmt.Sprint("bit ", bit), b, api.ErrSum)
			b[bit/8] ^= 1 << (bit % 8)
		}
	}
}

// wrongForms have a Crc that is right, and are wrong else, each by one reason; the last by all of them.
func wrongForms() [][]byte {
	return [][]byte{
		sheet(0, 0, 3, led(0, mixed(3))),
		sheet(6, 0, 3, led(0, mixed(3))),
		sheet(api.KindText, 0, 3, led(0, mixed(3))),
		sheet(api.KindBlob, 1, 3, led(0, mixed(3))),
		sheet(api.KindBlob, 0, 0, led(0, nil)),
		sheet(api.KindBlob, 0, 245, led(0, mixed(room))),
		sheet(api.KindBlob, 0, 65535, led(9, mixed(room))),
		link(1, mixed(room)),
		link(4096, mixed(room)),
		link(9, mixed(243)),
		sheet(api.KindBlob, 0, 3, led(0, mixed(4))),
		sheet(9, 99, 999, led(1<<32-1, mixed(room))),
	}
}

// R6: page.Open's error comes ahead of ErrForm, whatever else is wrong.
func TestOpensErrorFirst(t *testing.T) {
	for i, b := range wrongForms() {
		noPart(t, fmt.Sprint("page ", i), b, api.ErrForm)
		noPart(t, fmt.Sprint("page ", i, ", one byte less"), b[:api.PageSize-1], api.ErrArg)
		noPart(t, fmt.Sprint("page ", i, ", one byte more"), append(bytes.Clone(b), 0), api.ErrArg)
		b[2] ^= 16
		noPart(t, fmt.Sprint("page ", i, ", another Crc"), b, api.ErrSum)
		noPart(t, fmt.Sprint("page ", i, ", another Crc, one byte less"), b[:api.PageSize-1], api.ErrArg)
	}
}

// scribble turns every bit of b, and of the room behind it.
func scribble(b []byte) {
	b = b[:cap(b)]
	for i := range b {
		b[i] = ^b[i]
	}
}

// R4: what is handed in to Cut is neither changed, spare room included, nor kept.
func TestCutSharesNothing(t *testing.T) {
	for _, n := range []int{0, 1, room - 1, room, room + 1, 3 * room, 3*room + 7} {
		for _, evil := range []bool{false, true} {
			pages := append(pagesFor(n), 77, 78, 79)
			need := len(pages) - 3
			if evil && need > 0 {
				pages[need-1] = 1
			}
			b := mixed(n + 300)
			wantB, wantPages, want := bytes.Clone(b), slices.Clone(pages), model(b[:n], pages[:need])
			l, e := chain.Cut(b[:n], pages[:need])
			chain.Cut(b[:n], pages)
			if !bytes.Equal(b, wantB) || !slices.Equal(pages, wantPages) {
				t.Fatalf("%d bytes: what was handed in was changed", n)
			}
			clear(b)
			clear(pages)
			if e == api.OK && !sameSheets(l, want) {
				t.Errorf("%d bytes: an answer changed with what was handed in", n)
			}
			copy(b, wantB)
			copy(pages, wantPages)
			for i := range l {
				scribble(l[i])
			}
			if !bytes.Equal(b, wantB) || !slices.Equal(pages, wantPages) {
				t.Errorf("%d bytes: what was handed in changed with the answer", n)
			}
		}
	}
}

// R4: no two pages of one answer share bytes, spare room too; nor do those of two answers.
func TestSheetsShareNothing(t *testing.T) {
	b := mixed(5*room + 9)
	pages := pagesFor(len(b))
	want := model(b, pages)
	for i := range want {
		l, _ := chain.Cut(b, pages)
		other, _ := chain.Cut(b, pages)
		scribble(l[i])
		for k := range want {
			if k != i && !bytes.Equal(l[k], want[k]) {
				t.Errorf("pages %d and %d of one answer share bytes", i, k)
			}
		}
		clear(l[:cap(l)])
		if !sameSheets(other, want) {
			t.Error("two answers share pages")
		}
	}
}

// R4: what is handed in to Part is neither changed, spare room included, nor kept; two answers share nothing.
func TestPartSharesNothing(t *testing.T) {
	for i, b := range append(wrongForms(), link(0, mixed(1)), link(0, mixed(60)), link(9, mixed(room))) {
		long := append(bytes.Clone(b), mixed(300)...)
		before := bytes.Clone(long)
		x, _, _ := chain.Part(long[:api.PageSize])
		other, _, _ := chain.Part(long[:api.PageSize])
		chain.Part(long)
		if !bytes.Equal(long, before) {
			t.Fatalf("page %d: what was handed in was changed", i)
		}
		want := bytes.Clone(x)
		clear(long)
		if !bytes.Equal(x, want) {
			t.Errorf("page %d: an answer changed with what was handed in", i)
		}
		copy(long, before)
		scribble(x)
		if !bytes.Equal(long, before) || !bytes.Equal(other, want) {
			t.Errorf("page %d: something changed with the answer", i)
		}
	}
}

// P11.2: several chains on one disk, their pages among each other's, each read on by itself.
func TestChainsAmongEachOther(t *testing.T) {
	r := rand.New(rand.NewSource(12))
	for range 60 {
		free := r.Perm(all)
		disk := map[int][]byte{}
		var firsts []int
		var texts [][]byte
		for range 1 + r.Intn(8) {
			b := mixed(1 + r.Intn(12*room))
			pages := free[:chain.Need(len(b))]
			free = free[len(pages):]
			for i := range pages {
				pages[i] += least
			}
			lay(disk, pages, wantCut(t, b, pages))
			firsts, texts = append(firsts, pages[0]), append(texts, b)
		}
		for i, first := range firsts {
			if got := readOn(t, disk, first); !bytes.Equal(got, texts[i]) {
				t.Fatalf("the chain from %d on is read as %d other bytes", first, len(got))
			}
		}
	}
}

// mayBe tells the chapter's sentence of Part in another way: by what is wrong.
func mayBe(kind, level, count int, body []byte) bool {
	next := binary.BigEndian.Uint32(body)
	switch {
	case kind != 5, level != 0, count == 0, count > 244, next == 1, next > 4095, next > 0 && count < 244:
		return false
	}
	return bytes.Count(body[4+count:], []byte{0}) == 244-count
}

// P11.1: many pages, most of them near to the edges, against the chapter's sentence told in another way.
func TestManyPages(t *testing.T) {
	r := rand.New(rand.NewSource(13))
	rare := func(good int, evil ...int) int {
		if r.Intn(12) == 0 {
			return evil[r.Intn(len(evil))]
		}
		return good
	}
	taken, refused := 0, 0
	for range 60000 {
		n, next := room, rare(least+r.Intn(all), 1, 4096, 65536, 1<<32-1)
		if r.Intn(2) == 0 {
			n, next = 1+r.Intn(room), rare(0, 1, 2, 4095)
		}
		body := led(uint32(next), append(mixed(n), make([]byte, room-n)...))
		if r.Intn(6) == 0 {
			body[r.Intn(len(body))] ^= 1 << r.Intn(8)
		}
		kind, level, count := rare(5, 0, 1, 4, 6), rare(0, 1, 255), rare(n, 0, n-1, n+1, 244, 245, 248, 65535)
		b := sheet(kind, level, count, body)
		if !mayBe(kind, level, count, body) {
			refused++
			noPart(t, fmt.Sprint(b), b, api.ErrForm)
			continue
		}
		taken++
		wantPart(t, b, body[4:4+count], int(binary.BigEndian.Uint32(body)))
		wantMadeAgain(t, b)
	}
	if taken < 15000 || refused < 15000 {
		t.Errorf("%d may be, %d may not: too few to tell", taken, refused)
	}
}

// wantMadeAgain: P11.2 the other way round: what is read, cut again, is the same bytes.
func wantMadeAgain(t *testing.T, b []byte) {
	t.Helper()
	x, next, _ := chain.Part(b)
	pages := []int{least}
	if next == least {
		pages = []int{least + 1}
	}
	if next != 0 {
		x, pages = append(x, 1), append(pages, next)
	}
	if l, e := chain.Cut(x, pages); e != api.OK || len(l) == 0 || !bytes.Equal(l[0], b) {
		t.Fatalf("read and cut again, %v is %v, %v", b, l, e)
	}
}

// R1: any bytes, of any number, are refused by page.Open.
func TestAnyBytes(t *testing.T) {
	r := rand.New(rand.NewSource(14))
	for range 3000 {
		b := make([]byte, r.Intn(2*api.PageSize))
		want := api.ErrArg
		if len(b) == api.PageSize || r.Intn(2) == 0 {
			b, want = make([]byte, api.PageSize), api.ErrSum
		}
		r.Read(b)
		noPart(t, "any bytes", b, want)
	}
}
