package super_test

import (
	"bytes"
	"encoding/binary"
	"fmt"
	"hash/crc32"
	"math"
	"math/rand"
	"testing"

	"escritoire/api"
	"escritoire/device"
	"escritoire/page"
	"escritoire/super"
)

// full has all that a superblock may have; in each number all bytes are others that its limits leave free.
func full() api.Super {
	return api.Super{Gen: 0x0102030405060708, Pages: 0x0F01, Root: 0x0E02, Height: 0x1D, Bytes: 0x0A0B0C, Lines: 0x090807, State: 0x0D03, Free: 0x0C04}
}

// bare has neither a Root, nor a State, nor a Free.
func bare() api.Super {
	return api.Super{Gen: 1, Pages: api.MinPages}
}

// gen is full with another Gen.
func gen(n int) api.Super {
	s := full()
	s.Gen = n
	return s
}

// goods may be; among them, each of Root, State and Free is there and is not.
func goods() []api.Super {
	out := []api.Super{full(), bare(), gen(1), gen(1 << 60)}
	for i := range 8 {
		s := full()
		if i&1 == 0 {
			s.Root, s.Height, s.Bytes, s.Lines = 0, 0, 0, 0
		}
		if i&2 == 0 {
			s.State = 0
		}
		if i&4 == 0 {
			s.Free = 0
		}
		out = append(out, s)
	}
	return out
}

// numbers are those of a Body in their order, each with how many bytes it has.
func numbers(s api.Super) [][2]int {
	return [][2]int{{s.Gen, 8}, {s.Pages, 4}, {s.Root, 4}, {s.Height, 2}, {s.Bytes, 4}, {s.Lines, 4}, {s.State, 4}, {s.Free, 4}}
}

// body lays the numbers one behind the other, whatever they are, by the library.
func body(s api.Super) []byte {
	var b []byte
	for _, n := range numbers(s) {
		wide := binary.BigEndian.AppendUint64(nil, uint64(n[0]))
		b = append(b, wide[8-n[1]:]...)
	}
	return b
}

// sheet lays a page's parts and sums them by the library, whatever they are.
func sheet(kind, level, count int, body []byte) []byte {
	b := []byte{byte(kind), byte(level), byte(count >> 8), byte(count)}
	b = append(b, body...)
	b = append(b, make([]byte, 252-len(b))...)
	return append(binary.BigEndian.AppendUint32(nil, crc32.ChecksumIEEE(b)), b...)
}

// model is the page of s, whether it may be or not.
func model(s api.Super) []byte {
	return sheet(api.KindSuper, 0, 0, body(s))
}

// mayBe tells the chapter's sentence in another way: by what is wrong.
func mayBe(s api.Super) bool {
	for _, n := range []int{s.Root, s.State, s.Free} {
		if n < 0 || n == 1 || n >= s.Pages {
			return false
		}
	}
	empty := s.Root == 0 && s.Height == 0 && s.Bytes == 0 && s.Lines == 0
	filled := s.Root > 0 && s.Height > 0 && s.Height < 33 && s.Bytes > 0 && s.Bytes < 1048577 && s.Lines > -1 && s.Lines < s.Bytes+1
	return s.Gen > 0 && s.Gen < 1<<60+1 && s.Pages > 7 && s.Pages < 4097 && (empty || filled)
}

func encoded(t *testing.T, s api.Super) []byte {
	t.Helper()
	b, e := super.Encode(s)
	if e != api.OK || len(b) != api.PageSize {
		t.Fatalf("Encode(%+v) = %d bytes, %v", s, len(b), e)
	}
	return b
}

// wantTaken: s may be, its page is as the chapter says, and Decode answers it.
func wantTaken(t *testing.T, s api.Super) {
	t.Helper()
	if e := super.Check(s); e != api.OK {
		t.Errorf("Check(%+v) = %v", s, e)
	}
	if got, want := encoded(t, s), model(s); !bytes.Equal(got, want) {
		t.Errorf("Encode(%+v) = %v, want %v", s, got, want)
	}
	if got, e := super.Decode(model(s)); e != api.OK || got != s {
		t.Errorf("Decode of the page of %+v = %+v, %v", s, got, e)
	}
}

// wantRefused: s may not be; R2, no bytes beside the error.
func wantRefused(t *testing.T, s api.Super) {
	t.Helper()
	if e := super.Check(s); e != api.ErrArg {
		t.Errorf("Check(%+v) = %v, want ErrArg", s, e)
	}
	if b, e := super.Encode(s); e != api.ErrArg || len(b) != 0 {
		t.Errorf("Encode(%+v) = %d bytes, %v, want none, ErrArg", s, len(b), e)
	}
}

// wantNone: b is no superblock's page; R2, zero values beside the error.
func wantNone(t *testing.T, what string, b []byte, want api.Errno) {
	t.Helper()
	if s, e := super.Decode(b); e != want || s != (api.Super{}) {
		t.Errorf("%s: Decode = %+v, %v, want nothing, %v", what, s, e, want)
	}
}

func wantChosen(t *testing.T, what string, a, b []byte, want api.Super, place int) {
	t.Helper()
	if s, at, e := super.Choose(a, b); e != api.OK || s != want || at != place {
		t.Errorf("%s: Choose = %+v, %d, %v, want %+v, %d", what, s, at, e, want, place)
	}
}

// wantNeither: R2, a superblock of zero values beside ErrCorrupt and -1.
func wantNeither(t *testing.T, what string, a, b []byte) {
	t.Helper()
	if s, at, e := super.Choose(a, b); e != api.ErrCorrupt || s != (api.Super{}) || at != -1 {
		t.Errorf("%s: Choose = %+v, %d, %v, want nothing, -1, ErrCorrupt", what, s, at, e)
	}
}

func TestExamples(t *testing.T) {
	noughts := make([]byte, api.PageSize)
	three, five := encoded(t, gen(3)), encoded(t, gen(5))
	wantChosen(t, "gen 3, gen 5", three, five, gen(5), 1)
	wantChosen(t, "gen 3, noughts", three, noughts, gen(3), 0)
	wantNeither(t, "noughts, noughts", noughts, noughts)
}

// P7.1: each number at its place, in its own width, in bytes that are written out here.
func TestPlaces(t *testing.T) {
	b := encoded(t, full())
	want := []byte{
		1, 0, 0, 0, // Kind, Level, Count
		1, 2, 3, 4, 5, 6, 7, 8, // Gen
		0, 0, 15, 1, // Pages
		0, 0, 14, 2, // Root
		0, 29, // Height
		0, 10, 11, 12, // Bytes
		0, 9, 8, 7, // Lines
		0, 0, 13, 3, // State
		0, 0, 12, 4, // Free
	}
	if !bytes.Equal(b[4:42], want) {
		t.Errorf("ahead stand %v, want %v", b[4:42], want)
	}
	if !bytes.Equal(b[42:], make([]byte, 214)) {
		t.Errorf("behind stand %v, want noughts", b[42:])
	}
	if got, want := binary.BigEndian.Uint32(b), crc32.ChecksumIEEE(b[4:]); got != want {
		t.Errorf("the Crc is %x, want %x", got, want)
	}
}

// P7.1, P7.2: with and without a Root, a State, a Free; Decode of Encode is the superblock.
func TestThereAndBack(t *testing.T) {
	for _, s := range goods() {
		wantTaken(t, s)
		if got, e := super.Decode(encoded(t, s)); e != api.OK || got != s {
			t.Errorf("Decode of Encode of %+v = %+v, %v", s, got, e)
		}
	}
}

// P7.1: the page is one that page.Open takes, of KindSuper, with Level and Count 0.
func TestPage(t *testing.T) {
	for _, s := range goods() {
		p, e := page.Open(encoded(t, s))
		if e != api.OK || p.Kind != api.KindSuper || p.Level != 0 || p.Count != 0 || !bytes.Equal(p.Body[:34], body(s)) {
			t.Errorf("the page of %+v is %+v, %v", s, p, e)
		}
	}
}

// edge is one number's: what sets it, those that may be, those that may not.
type edge struct {
	name       string
	set        func(s *api.Super, n int)
	good, evil []int
}

// wild are numbers whose lowest bytes alone may be.
var wild = []int{math.MinInt, math.MinInt + 2, -1 << 62, -1<<32 + 9, -256, -2, -1, 1<<60 + 2, 1<<62 + 9, math.MaxInt}

func edges() []edge {
	last := full().Pages - 1
	leads, strays := []int{0, 2, 3, last - 1, last}, []int{-1, 1, last + 1, last + 2, api.MaxPages}
	return []edge{
		{"Gen", func(s *api.Super, n int) { s.Gen = n }, []int{1, 2, 255, 256, 1 << 32, 1<<60 - 1, 1 << 60}, []int{-1, 0, 1<<60 + 1, 1 << 61}},
		{"Pages", func(s *api.Super, n int) { *s = bare(); s.Pages = n }, []int{api.MinPages, api.MinPages + 1, api.MaxPages - 1, api.MaxPages}, []int{-1, 0, 1, 2, 3, api.MinPages - 1, api.MaxPages + 1}},
		{"Root", func(s *api.Super, n int) { s.Root = n }, leads[1:], append(strays, 0)},
		{"State", func(s *api.Super, n int) { s.State = n }, leads, strays},
		{"Free", func(s *api.Super, n int) { s.Free = n }, leads, strays},
		{"Height", func(s *api.Super, n int) { s.Height = n }, []int{1, 2, 31, 32}, []int{-1, 0, 33, 34, 65535, 65536 + 1}},
		{"Bytes", func(s *api.Super, n int) { s.Bytes, s.Lines = n, 0 }, []int{1, 2, api.MaxText - 1, api.MaxText}, []int{-1, 0, api.MaxText + 1}},
		{"Lines", func(s *api.Super, n int) { s.Lines = n }, []int{0, 1, full().Bytes - 1, full().Bytes}, []int{-1, full().Bytes + 1, api.MaxText}},
	}
}

// P7.1: each number at its edges, beside others that may be.
func TestEdges(t *testing.T) {
	for _, x := range edges() {
		for _, n := range x.good {
			s := full()
			x.set(&s, n)
			wantTaken(t, s)
		}
		for _, n := range append(x.evil, wild...) {
			s := full()
			x.set(&s, n)
			wantRefused(t, s)
		}
	}
}

// P7.1: numbers that may not be, in a page with a Crc that is right, as far as they have room there.
func TestDecodeEdges(t *testing.T) {
	for _, x := range edges() {
		for _, n := range append(x.evil, wild...) {
			s := full()
			x.set(&s, n)
			if !hasRoom(s) {
				continue
			}
			wantNone(t, fmt.Sprint(x.name, " ", n), model(s), api.ErrForm)
		}
	}
	// All bits of one number: the greatest that its bytes tell, past what an int holds for Gen.
	at := 0
	for i, n := range numbers(full()) {
		b := body(full())
		copy(b[at:at+n[1]], bytes.Repeat([]byte{255}, n[1]))
		wantNone(t, fmt.Sprint("all bits of number ", i), sheet(api.KindSuper, 0, 0, b), api.ErrForm)
		clear(b[at+1 : at+n[1]])
		b[at] = 128
		wantNone(t, fmt.Sprint("the first bit of number ", i), sheet(api.KindSuper, 0, 0, b), api.ErrForm)
		at += n[1]
	}
}

// hasRoom tells whether the Body's bytes can tell all numbers of s as they are. (Any Gen has room: a negative one is read as one that is too great.)
func hasRoom(s api.Super) bool {
	for _, n := range numbers(s)[1:] {
		if n[0] < 0 || n[0]>>(8*n[1]) != 0 {
			return false
		}
	}
	return true
}

// P7.1: what Root, State and Free may be hangs on Pages: Pages - 1 may, Pages may not.
func TestLeads(t *testing.T) {
	for _, pages := range []int{api.MinPages, api.MinPages + 1, 100, api.MaxPages} {
		for i := range 3 {
			for n := -2; n <= pages+2; n++ {
				s := api.Super{Gen: 7, Pages: pages, Root: 2, Height: 1, Bytes: 1}
				*[]*int{&s.Root, &s.State, &s.Free}[i] = n
				if 2 <= n && n < pages || n == 0 && i > 0 {
					wantTaken(t, s)
				} else {
					wantRefused(t, s)
				}
			}
		}
	}
}

// P7.1: Root, Height and Bytes are 0 all together or none of them; Lines is at most Bytes.
func TestZerosTogether(t *testing.T) {
	for i := range 16 {
		s := api.Super{Gen: 1, Pages: 16, Root: 5 * (i & 1), Height: i >> 1 & 1, Bytes: 10 * (i >> 2 & 1), Lines: i >> 3 & 1}
		if i == 0 || i == 7 || i == 15 {
			wantTaken(t, s)
			continue
		}
		wantRefused(t, s)
		wantNone(t, fmt.Sprintf("%+v", s), model(s), api.ErrForm)
	}
}

// P7.1: one page may be named by all three.
func TestOnePageThrice(t *testing.T) {
	wantTaken(t, api.Super{Gen: 2, Pages: 9, Root: 8, Height: 32, Bytes: 1, Lines: 1, State: 8, Free: 8})
}

// R2, R6: zero values, and all wrong at once.
func TestNothingRight(t *testing.T) {
	wantRefused(t, api.Super{})
	wantNone(t, "a page of zero values", model(api.Super{}), api.ErrForm)
	for _, n := range wild {
		wantRefused(t, api.Super{Gen: n, Pages: n, Root: n, Height: n, Bytes: n, Lines: n, State: n, Free: n})
	}
}

// P7.1: Decode takes PageSize bytes, and says page.Open's ErrArg to any other number of them.
func TestDecodeLengths(t *testing.T) {
	whole := model(full())
	long := append(bytes.Clone(whole), make([]byte, 2*api.PageSize)...)
	wantNone(t, "nil", nil, api.ErrArg)
	wantNone(t, "empty", []byte{}, api.ErrArg)
	for n := range long {
		if n != api.PageSize {
			wantNone(t, fmt.Sprint(n, " bytes"), long[:n], api.ErrArg)
		}
	}
	if s, e := super.Decode(long[:api.PageSize]); e != api.OK || s != full() {
		t.Errorf("cut out of more: Decode = %+v, %v", s, e)
	}
}

// P7.1: every bit that is turned is page.Open's ErrSum.
func TestDecodeTurnedBits(t *testing.T) {
	for _, s := range []api.Super{full(), bare()} {
		b := model(s)
		for bit := range 8 * api.PageSize {
			b[bit/8] ^= 1 << (bit % 8)
			wantNone(t, fmt.Sprint("bit ", bit), b, api.ErrSum)
			b[bit/8] ^= 1 << (bit % 8)
		}
	}
	wantNone(t, "noughts", make([]byte, api.PageSize), api.ErrSum)
}

// P7.1: of all Kinds, Levels and Counts one alone is a superblock's.
func TestDecodeHeads(t *testing.T) {
	b := body(full())
	for kind := range 256 {
		if kind != api.KindSuper {
			wantNone(t, fmt.Sprint("Kind ", kind), sheet(kind, 0, 0, b), api.ErrForm)
		}
	}
	for level := 1; level < 256; level++ {
		wantNone(t, fmt.Sprint("Level ", level), sheet(api.KindSuper, level, 0, b), api.ErrForm)
	}
	for count := 1; count < 65536; count += 1 + count/40 {
		wantNone(t, fmt.Sprint("Count ", count), sheet(api.KindSuper, 0, count, b), api.ErrForm)
	}
	wantNone(t, "Count 65535", sheet(api.KindSuper, 0, 65535, b), api.ErrForm)
	wantNone(t, "all of them wrong", sheet(api.KindLeaf, 1, 1, b), api.ErrForm)
}

// P7.1: a byte behind the Body's own numbers, at each place, be it ever so small.
func TestDecodeTails(t *testing.T) {
	for at := 34; at < api.BodySize; at++ {
		for _, x := range []byte{1, 128, 255} {
			b := append(body(full()), make([]byte, api.BodySize-34)...)
			b[at] = x
			wantNone(t, fmt.Sprintf("byte %d at %d", x, at), sheet(api.KindSuper, 0, 0, b), api.ErrForm)
		}
	}
}

// R6: page.Open's error comes ahead of ErrForm, whatever else is wrong.
func TestOpensErrorFirst(t *testing.T) {
	bad := full()
	bad.Gen, bad.Pages = 0, 7
	tail := append(body(full()), 1)
	for i, b := range [][]byte{
		model(bad),
		sheet(api.KindText, 0, 0, body(full())),
		sheet(0, 0, 0, body(full())),
		sheet(api.KindSuper, 1, 0, body(full())),
		sheet(api.KindSuper, 0, 1, body(full())),
		sheet(api.KindSuper, 0, 0, tail),
		sheet(9, 1, 1, append(body(bad), 1)),
	} {
		wantNone(t, fmt.Sprint("page ", i), b, api.ErrForm)
		wantNone(t, fmt.Sprint("page ", i, ", one byte less"), b[:api.PageSize-1], api.ErrArg)
		wantNone(t, fmt.Sprint("page ", i, ", one byte more"), append(bytes.Clone(b), 0), api.ErrArg)
		b[2] ^= 16
		wantNone(t, fmt.Sprint("page ", i, ", another Crc"), b, api.ErrSum)
	}
}

// P7.1: both are taken: the greater Gen, at each place.
func TestChooseGreater(t *testing.T) {
	gens := []int{1, 2, 3, 255, 256, 1 << 31, 1 << 32, 1<<60 - 1, 1 << 60}
	for i, small := range gens {
		for _, great := range gens[i+1:] {
			// The lesser one differs in all, and is greater in all else.
			less := api.Super{Gen: small, Pages: api.MaxPages, Root: api.MaxPages - 1, Height: 32, Bytes: api.MaxText, Lines: api.MaxText, State: api.MaxPages - 1, Free: api.MaxPages - 1}
			more := api.Super{Gen: great, Pages: api.MinPages}
			wantChosen(t, fmt.Sprint(small, ", ", great), model(less), model(more), more, 1)
			wantChosen(t, fmt.Sprint(great, ", ", small), model(more), model(less), more, 0)
		}
	}
}

// P7.1: Gens that are alike: the first one, whatever the rest.
func TestChooseAlike(t *testing.T) {
	for _, n := range []int{1, 5, 1 << 60} {
		one, two := gen(n), bare()
		two.Gen = n
		wantChosen(t, "the same twice", model(one), model(one), one, 0)
		wantChosen(t, "full, bare", model(one), model(two), one, 0)
		wantChosen(t, "bare, full", model(two), model(one), two, 0)
	}
}

// broken are bytes that Decode does not take, for each of its reasons.
func broken() [][]byte {
	evil := full()
	evil.Gen = 1<<60 + 1
	torn := model(full())
	torn[30]++
	return [][]byte{
		nil,
		make([]byte, api.PageSize),
		model(full())[:api.PageSize-1],
		append(model(full()), 0),
		torn,
		sheet(api.KindLeaf, 0, 0, body(full())),
		sheet(0, 0, 0, body(full())),
		sheet(api.KindSuper, 1, 0, body(full())),
		sheet(api.KindSuper, 0, 1, body(full())),
		sheet(api.KindSuper, 0, 0, append(body(full()), 1)),
		model(evil),
	}
}

// P7.1: one alone is taken, at each place; neither is.
func TestChooseOneOrNone(t *testing.T) {
	for i, a := range broken() {
		for _, s := range []api.Super{full(), bare(), gen(1 << 60)} {
			wantChosen(t, fmt.Sprint("broken ", i, " first"), a, model(s), s, 1)
			wantChosen(t, fmt.Sprint("broken ", i, " second"), model(s), a, s, 0)
		}
		for k, b := range broken() {
			wantNeither(t, fmt.Sprint("broken ", i, ", ", k), a, b)
		}
	}
}

// P7.2: one page over the other, each sector of it kept or not, all sixteen ways.
func TestTorn(t *testing.T) {
	for _, old := range goods() {
		for _, young := range goods() {
			for ways := range 16 {
				b := encoded(t, old)
				over := encoded(t, young)
				for k := range 4 {
					if ways>>k&1 == 1 {
						copy(b[64*k:64*k+64], over[64*k:])
					}
				}
				want := old
				if ways&1 == 1 {
					want = young
				}
				if s, e := super.Decode(b); e != api.OK || s != want {
					t.Fatalf("%+v over %+v, torn by %04b: %+v, %v", young, old, ways, s, e)
				}
			}
		}
	}
}

// P7.2: so it is on a device that crashes ahead of its Sync.
func TestTornOnDevice(t *testing.T) {
	for ways := range 16 {
		d, _ := device.New(api.MinPages)
		write(t, d, 0, encoded(t, gen(3)))
		write(t, d, 1, encoded(t, gen(4)))
		if e := d.Sync(); e != api.OK {
			t.Fatal(e)
		}
		write(t, d, 0, encoded(t, gen(5)))
		after := d.Crash([]byte{byte(ways)})
		a, _ := after.Read(0)
		b, _ := after.Read(1)
		if ways&1 == 1 {
			wantChosen(t, fmt.Sprintf("%04b", ways), a, b, gen(5), 0)
		} else {
			wantChosen(t, fmt.Sprintf("%04b", ways), a, b, gen(4), 1)
		}
	}
}

func write(t *testing.T, d *device.Device, n int, b []byte) {
	t.Helper()
	if e := d.Write(n, b); e != api.OK {
		t.Fatal(e)
	}
}

// R4: what is handed in is not changed, spare room included, taken or not.
func TestHandedInIsNotChanged(t *testing.T) {
	for i, b := range append(broken(), model(full()), model(bare())) {
		room := append(bytes.Clone(b), bytes.Repeat([]byte{9}, 300)...)
		other := append(model(gen(2)), bytes.Repeat([]byte{8}, 300)...)
		before, otherBefore := bytes.Clone(room), bytes.Clone(other)
		super.Decode(room[:len(b)])
		super.Choose(room[:len(b)], other[:api.PageSize])
		super.Choose(other[:api.PageSize], room[:len(b)])
		if !bytes.Equal(room, before) || !bytes.Equal(other, otherBefore) {
			t.Errorf("bytes %d: what was handed in was changed", i)
		}
	}
}

// R4: one list may be handed in at both places.
func TestOneListTwice(t *testing.T) {
	b := model(full())
	wantChosen(t, "one list", b, b, full(), 0)
}

// R4: what Encode answers is new memory, spare room too, and shared with no other answer.
func TestAnswersShareNothing(t *testing.T) {
	one, two := encoded(t, full()), encoded(t, full())
	one = one[:cap(one)]
	for i := range one {
		one[i] = ^one[i]
	}
	if !bytes.Equal(two, model(full())) {
		t.Error("two answers share bytes")
	}
	wantTaken(t, full())
}

// P7.1, P7.2: many superblocks, most of them near to the edges, against the chapter's sentences told in another way.
func TestManySupers(t *testing.T) {
	r := rand.New(rand.NewSource(7))
	pick := func(of ...int) int { return of[r.Intn(len(of))] }
	taken := 0
	for range 200000 {
		pages := pick(7, 8, 8, 9, 100, 4095, 4096, 4096, 4097)
		lead := func() int { return pick(0, 0, 2, 2, 3, 5, pages-1, pages-1, 2+r.Intn(6), pick(-1, 1, pages)) }
		s := api.Super{Gen: pick(1, 2, 3, 1<<60, 1<<60-1, 1+r.Intn(1<<60), pick(0, -1, 1<<60+1)), Pages: pages, Root: lead(), State: lead(), Free: lead()}
		s.Height = pick(0, 0, 1, 32, 1+r.Intn(32), pick(-1, 33))
		s.Bytes = pick(0, 0, 1, api.MaxText, 1+r.Intn(api.MaxText), pick(-1, api.MaxText+1))
		s.Lines = pick(0, 0, s.Bytes, s.Bytes, s.Bytes/2, pick(-1, s.Bytes+1))
		if mayBe(s) {
			taken++
			wantTaken(t, s)
			continue
		}
		wantRefused(t, s)
		if hasRoom(s) {
			wantNone(t, fmt.Sprintf("%+v", s), model(s), api.ErrForm)
		}
	}
	if taken < 10000 {
		t.Errorf("only %d may be: too few to tell", taken)
	}
}

// R1, P7.2: any bytes; what is taken is what Encode answers.
func TestAnyBytes(t *testing.T) {
	r := rand.New(rand.NewSource(8))
	for range 3000 {
		b := make([]byte, r.Intn(2*api.PageSize))
		if r.Intn(2) == 0 {
			b = make([]byte, api.PageSize)
		}
		r.Read(b)
		if s, e := super.Decode(b); e == api.OK || s != (api.Super{}) {
			t.Fatalf("Decode of any bytes = %+v, %v", s, e)
		}
		own := body(goods()[r.Intn(12)])
		own[r.Intn(len(own))] ^= 1 << r.Intn(8)
		near := sheet(api.KindSuper, 0, 0, own)
		s, e := super.Decode(near)
		if e != api.OK && (e != api.ErrForm || s != (api.Super{})) {
			t.Fatalf("Decode of %v = %+v, %v", near, s, e)
		}
		if e == api.OK && !bytes.Equal(encoded(t, s), near) {
			t.Fatalf("Encode of Decode of %v is something else", near)
		}
	}
}
