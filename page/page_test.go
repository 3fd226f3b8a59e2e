package page_test

import (
	"bytes"
	"encoding/binary"
	"fmt"
	"hash/crc32"
	"math"
	"math/rand"
	"testing"

	"escritoire/api"
	"escritoire/page"
)

// kinds are all that there are.
var kinds = []int{api.KindSuper, api.KindInner, api.KindLeaf, api.KindText, api.KindBlob}

// wrongKinds have lowest bytes, or lowest 32 bits, at which a Kind stands too.
var wrongKinds = []int{math.MinInt, math.MinInt + api.KindSuper, -1 << 32, -256 + api.KindLeaf, -2, -1, api.KindSuper - 1, api.KindBlob + 1, 7, 255, 256, 256 + api.KindText, 1<<16 + api.KindInner, 1<<32 + api.KindSuper, 1<<62 + api.KindBlob, math.MaxInt}

var wrongLevels = []int{math.MinInt, -1 << 32, -256, -255, -1, 256, 257, 511, 65535, 1 << 32, 1 << 62, math.MaxInt}

var wrongCounts = []int{math.MinInt, -1 << 32, -65536, -65535, -1, 65536, 65537, 131071, 1 << 32, 1 << 62, math.MaxInt}

var wrongLengths = []int{api.BodySize + 1, api.BodySize + 2, api.PageSize, api.PageSize + 1, 2 * api.PageSize, 65536}

// mixed are so many bytes, none of them nought, so that one that is missing or at a wrong place shows.
func mixed(n, seed int) []byte {
	r := rand.New(rand.NewSource(int64(seed)))
	b := make([]byte, n)
	for i := range b {
		b[i] = byte(1 + r.Intn(255))
	}
	return b
}

// model lays the parts one behind the other, and sums them by the library's table: another way than the package's.
func model(p api.Page) []byte {
	b := []byte{byte(p.Kind), byte(p.Level)}
	b = binary.BigEndian.AppendUint16(b, uint16(p.Count))
	b = append(b, p.Body...)
	b = append(b, make([]byte, 252-len(b))...)
	return append(binary.BigEndian.AppendUint32(nil, crc32.ChecksumIEEE(b)), b...)
}

// resummed are the bytes of b, of which the Crc is made right.
func resummed(b []byte) []byte {
	out := bytes.Clone(b)
	binary.BigEndian.PutUint32(out, crc32.ChecksumIEEE(out[4:]))
	return out
}

func sealed(t *testing.T, p api.Page) []byte {
	t.Helper()
	b, e := page.Seal(p)
	if e != api.OK || len(b) != api.PageSize {
		t.Fatalf("Seal(%s) = %d bytes, %v", brief(p), len(b), e)
	}
	return b
}

func brief(p api.Page) string {
	return fmt.Sprintf("Kind %d, Level %d, Count %d, a Body of %d", p.Kind, p.Level, p.Count, len(p.Body))
}

func wantSealed(t *testing.T, p api.Page) {
	t.Helper()
	if got, want := sealed(t, p), model(p); !bytes.Equal(got, want) {
		t.Errorf("Seal(%s) = %v, want %v", brief(p), got, want)
	}
}

// wantRefused: R2, no bytes beside an error.
func wantRefused(t *testing.T, p api.Page, want api.Errno) {
	t.Helper()
	if b, e := page.Seal(p); e != want || len(b) != 0 {
		t.Errorf("Seal(%s) = %d bytes, %v, want none, %v", brief(p), len(b), e, want)
	}
}

func wantOpened(t *testing.T, b []byte, want api.Page) {
	t.Helper()
	p, e := page.Open(b)
	if e != api.OK || p.Kind != want.Kind || p.Level != want.Level || p.Count != want.Count {
		t.Errorf("Open = %s, %v, want %s", brief(p), e, brief(want))
	}
	body := append(bytes.Clone(want.Body), make([]byte, api.BodySize-len(want.Body))...)
	if !bytes.Equal(p.Body, body) {
		t.Errorf("Open of %s: the Body is %v, want %v", brief(want), p.Body, body)
	}
}

// wantClosed: R2, a page of zero values beside an error.
func wantClosed(t *testing.T, what string, b []byte, want api.Errno) {
	t.Helper()
	p, e := page.Open(b)
	if e != want || p.Kind != 0 || p.Level != 0 || p.Count != 0 || len(p.Body) != 0 {
		t.Errorf("%s: Open = %s, %v, want nothing, %v", what, brief(p), e, want)
	}
}

func TestExamples(t *testing.T) {
	wantClosed(t, "256 noughts", make([]byte, 256), api.ErrSum)
	wantRefused(t, api.Page{Kind: 0}, api.ErrArg)
	wantRefused(t, api.Page{Kind: api.KindSuper, Body: make([]byte, 249)}, api.ErrLong)
}

// P6.1: each part at its place, in bytes that are written out here.
func TestSealPlaces(t *testing.T) {
	b := sealed(t, api.Page{Kind: api.KindText, Level: 3, Count: 300, Body: []byte{7, 8}})
	if want := []byte{4, 3, 1, 44, 7, 8}; !bytes.Equal(b[4:10], want) {
		t.Errorf("the head and the Body are %v, want %v", b[4:10], want)
	}
	if !bytes.Equal(b[10:], make([]byte, 246)) {
		t.Errorf("behind the Body stand %v, want noughts", b[10:])
	}
	if got, want := binary.BigEndian.Uint32(b), crc32.ChecksumIEEE(b[4:]); got != want {
		t.Errorf("the Crc is %x, want %x", got, want)
	}
}

// P6.1, P6.2: each Kind that there is.
func TestKinds(t *testing.T) {
	for i, kind := range kinds {
		p := api.Page{Kind: kind, Level: 10 + i, Count: 1000 * i, Body: mixed(100+i, i)}
		wantSealed(t, p)
		wantOpened(t, sealed(t, p), p)
	}
}

// P6.1: a Kind that there is not, whatever the rest.
func TestWrongKinds(t *testing.T) {
	for _, kind := range wrongKinds {
		wantRefused(t, api.Page{Kind: kind}, api.ErrArg)
		wantRefused(t, api.Page{Kind: kind, Level: 255, Count: 65535, Body: mixed(api.BodySize, 1)}, api.ErrArg)
	}
}

// P6.1, P6.2: every Level that there is, and some that there are not.
func TestLevels(t *testing.T) {
	for level := range 256 {
		p := api.Page{Kind: api.KindInner, Level: level, Count: 258, Body: []byte{1}}
		wantSealed(t, p)
		wantOpened(t, sealed(t, p), p)
	}
	for _, level := range wrongLevels {
		for _, kind := range kinds {
			wantRefused(t, api.Page{Kind: kind, Level: level}, api.ErrArg)
		}
	}
}

// P6.1, P6.2: every Count that there is, and some that there are not.
func TestCounts(t *testing.T) {
	for count := range 65536 {
		p := api.Page{Kind: api.KindLeaf, Level: 1, Count: count, Body: []byte{1}}
		b := sealed(t, p)
		if got := int(binary.BigEndian.Uint16(b[6:])); got != count || b[5] != 1 || b[8] != 1 {
			t.Fatalf("Count %d stands as %d, between %d and %d", count, got, b[5], b[8])
		}
		if count%997 == 0 || count < 3 || count > 65532 {
			wantSealed(t, p)
			wantOpened(t, b, p)
		}
	}
	for _, count := range wrongCounts {
		for _, kind := range kinds {
			wantRefused(t, api.Page{Kind: kind, Count: count}, api.ErrArg)
		}
	}
}

// P6.1, P6.2: a Body of every length that has room, and of some that have none.
func TestBodies(t *testing.T) {
	for n := range api.BodySize + 1 {
		p := api.Page{Kind: api.KindBlob, Level: 255, Count: 65535, Body: mixed(n, n)}
		wantSealed(t, p)
		wantOpened(t, sealed(t, p), p)
	}
	for _, n := range wrongLengths {
		for _, kind := range kinds {
			wantRefused(t, api.Page{Kind: kind, Body: make([]byte, n)}, api.ErrLong)
			wantRefused(t, api.Page{Kind: kind, Level: 255, Count: 65535, Body: mixed(n, n)}, api.ErrLong)
		}
	}
}

// R4: no Body and an empty one are one.
func TestNoBody(t *testing.T) {
	none := sealed(t, api.Page{Kind: api.KindText})
	empty := sealed(t, api.Page{Kind: api.KindText, Body: []byte{}})
	spare := sealed(t, api.Page{Kind: api.KindText, Body: mixed(30, 1)[:0]})
	if !bytes.Equal(none, empty) || !bytes.Equal(none, spare) {
		t.Errorf("no Body: %v, an empty one: %v, one with room behind it: %v", none, empty, spare)
	}
	wantOpened(t, none, api.Page{Kind: api.KindText})
}

// R6: of what is wrong at once with what Seal takes, ErrArg comes first.
func TestSealFirstError(t *testing.T) {
	long := make([]byte, api.BodySize+1)
	for _, p := range []api.Page{
		{Kind: 0, Body: long},
		{Kind: 6, Body: long},
		{Kind: 1, Level: -1, Body: long},
		{Kind: 1, Level: 256, Body: long},
		{Kind: 1, Count: -1, Body: long},
		{Kind: 1, Count: 65536, Body: long},
		{Kind: 9, Level: 999, Count: 99999, Body: long},
		{Body: long},
	} {
		wantRefused(t, p, api.ErrArg)
	}
}

// P6.1: Open takes PageSize bytes, and no other number of them, whatever stands there.
func TestOpenLengths(t *testing.T) {
	whole := sealed(t, api.Page{Kind: api.KindLeaf, Count: 3, Body: mixed(20, 1)})
	long := append(bytes.Clone(whole), make([]byte, 3*api.PageSize)...)
	wantClosed(t, "nil", nil, api.ErrArg)
	for n := range long {
		if n != api.PageSize {
			wantClosed(t, fmt.Sprint(n, " bytes"), long[:n], api.ErrArg)
			wantClosed(t, fmt.Sprint(n, " noughts"), make([]byte, n), api.ErrArg)
		}
	}
	// Cut out of more, it is a page: what lies behind it does not count.
	wantOpened(t, long[:api.PageSize], api.Page{Kind: api.KindLeaf, Count: 3, Body: mixed(20, 1)})
}

// R6: bytes that are not PageSize many are ErrArg, though their Crc is right, or their Kind wrong.
func TestOpenLengthFirst(t *testing.T) {
	for _, n := range []int{8, api.PageSize - 1, api.PageSize + 1} {
		b := make([]byte, n)
		for kind := range 8 {
			b[4] = byte(kind)
			wantClosed(t, fmt.Sprint(n, " bytes with a right Crc, Kind ", kind), resummed(b), api.ErrArg)
		}
	}
}

// P6.1: another Crc is ErrSum, at each of its bytes, and for sums that are near to the right one.
func TestOpenOtherSums(t *testing.T) {
	whole := sealed(t, api.Page{Kind: api.KindSuper, Level: 9, Count: 513, Body: mixed(api.BodySize, 5)})
	right := binary.BigEndian.Uint32(whole)
	for at := range 4 {
		for x := 1; x < 256; x++ {
			b := bytes.Clone(whole)
			b[at] ^= byte(x)
			wantClosed(t, fmt.Sprintf("byte %d xor %d", at, x), b, api.ErrSum)
		}
	}
	swapped := uint32(whole[3])<<24 | uint32(whole[2])<<16 | uint32(whole[1])<<8 | uint32(whole[0])
	for _, sum := range []uint32{right + 1, right - 1, ^right, swapped, 0, math.MaxUint32, crc32.ChecksumIEEE(whole[8:]), crc32.ChecksumIEEE(whole), crc32.Checksum(whole[4:], crc32.MakeTable(crc32.Castagnoli))} {
		b := bytes.Clone(whole)
		binary.BigEndian.PutUint32(b, sum)
		wantClosed(t, fmt.Sprintf("Crc %x", sum), b, api.ErrSum)
	}
}

// P6.1: all that one byte may tell as a Kind: those that there are open, all the others are ErrForm.
func TestOpenKinds(t *testing.T) {
	body := mixed(api.BodySize, 3)
	for kind := range 256 {
		p := api.Page{Kind: kind, Level: 1, Count: 2, Body: body}
		if api.KindSuper <= kind && kind <= api.KindBlob {
			wantOpened(t, model(p), p)
		} else {
			wantClosed(t, fmt.Sprint("Kind ", kind), model(p), api.ErrForm)
		}
	}
	wantClosed(t, "noughts with their Crc", resummed(make([]byte, api.PageSize)), api.ErrForm)
}

// R6: a page with another Crc and with such a Kind as there is not is ErrSum.
func TestOpenSumFirst(t *testing.T) {
	for _, kind := range []byte{0, 6, 7, 128, 255} {
		b := model(api.Page{Kind: int(kind), Body: mixed(10, 1)})
		b[3] ^= 1
		wantClosed(t, fmt.Sprint("Kind ", kind), b, api.ErrSum)
	}
}

// P6.1: what stands behind a head is the Body, by all its bytes; no Count and no Kind cuts it.
func TestOpenWholeBody(t *testing.T) {
	for _, kind := range kinds {
		for _, count := range []int{0, 1, 100, 247, 248, 249, 65535} {
			p := api.Page{Kind: kind, Count: count, Body: mixed(api.BodySize, count)}
			wantOpened(t, model(p), p)
		}
	}
}

// P6.2: one bit that is turned, at each place, is ErrSum, whatever the page holds.
func TestTurnedBits(t *testing.T) {
	for i, p := range []api.Page{
		{Kind: api.KindSuper},
		{Kind: api.KindInner, Level: 255, Count: 65535, Body: bytes.Repeat([]byte{255}, api.BodySize)},
		{Kind: api.KindLeaf, Level: 1, Count: 20, Body: mixed(240, 1)},
		{Kind: api.KindText, Body: mixed(api.BodySize, 2)},
		{Kind: api.KindBlob, Count: 256, Body: mixed(1, 3)},
	} {
		b := sealed(t, p)
		for bit := range 8 * api.PageSize {
			b[bit/8] ^= 1 << (bit % 8)
			wantClosed(t, fmt.Sprint("page ", i, ", bit ", bit), b, api.ErrSum)
			b[bit/8] ^= 1 << (bit % 8)
		}
		wantOpened(t, b, p)
	}
}

// R4: what is handed in to Seal is neither changed, spare room included, nor kept.
func TestSealSharesNothing(t *testing.T) {
	for _, n := range []int{0, 1, 100, api.BodySize - 1, api.BodySize} {
		room := mixed(2*api.PageSize, n)
		before := bytes.Clone(room)
		p := api.Page{Kind: api.KindText, Level: 2, Count: n, Body: room[:n]}
		b := sealed(t, p)
		if !bytes.Equal(room, before) {
			t.Errorf("a Body of %d: Seal changed what was handed in", n)
		}
		want := model(p)
		clear(room)
		if !bytes.Equal(b, want) {
			t.Errorf("a Body of %d: the answer changed with what was handed in", n)
		}
		copy(room, before)
		scribble(b)
		if !bytes.Equal(room, before) {
			t.Errorf("a Body of %d: what was handed in changed with the answer", n)
		}
		wantSealed(t, p)
	}
}

// R4, R3: nor where Seal refuses it.
func TestRefusedIsNotChanged(t *testing.T) {
	room := mixed(2*api.PageSize, 1)
	before := bytes.Clone(room)
	wantRefused(t, api.Page{Kind: api.KindText, Body: room[:api.BodySize+1]}, api.ErrLong)
	wantRefused(t, api.Page{Kind: 0, Body: room[:10]}, api.ErrArg)
	wantClosed(t, "bytes that are no page", room[:api.PageSize], api.ErrSum)
	wantClosed(t, "bytes that are too many", room, api.ErrArg)
	if !bytes.Equal(room, before) {
		t.Error("what was handed in and refused was changed")
	}
}

// R4: what is handed in to Open is neither changed, spare room included, nor kept.
func TestOpenSharesNothing(t *testing.T) {
	want := api.Page{Kind: api.KindLeaf, Level: 0, Count: 7, Body: mixed(api.BodySize, 1)}
	room := append(model(want), mixed(100, 2)...)
	before := bytes.Clone(room)
	p, e := page.Open(room[:api.PageSize])
	if e != api.OK || !bytes.Equal(room, before) {
		t.Fatalf("Open = %v, or it changed what was handed in", e)
	}
	clear(room)
	if !bytes.Equal(p.Body, want.Body) {
		t.Error("the answer changed with what was handed in")
	}
	copy(room, before)
	scribble(p.Body)
	if !bytes.Equal(room, before) {
		t.Error("what was handed in changed with the answer")
	}
}

// R4: the answers of two calls share nothing either.
func TestAnswersShareNothing(t *testing.T) {
	p := api.Page{Kind: api.KindBlob, Count: 5, Body: mixed(50, 1)}
	one, two := sealed(t, p), sealed(t, p)
	scribble(one)
	if !bytes.Equal(two, model(p)) {
		t.Error("two answers of Seal share bytes")
	}
	first, _ := page.Open(two)
	second, _ := page.Open(two)
	scribble(first.Body)
	if !bytes.Equal(second.Body, model(p)[8:]) {
		t.Error("two answers of Open share bytes")
	}
}

// scribble turns every bit of b, and of the room behind it.
func scribble(b []byte) {
	b = b[:cap(b)]
	for i := range b {
		b[i] = ^b[i]
	}
}

// P6.1, P6.2: many pages, right ones and wrong ones, against the chapter's sentences told in another way.
func TestManyPages(t *testing.T) {
	r := rand.New(rand.NewSource(6))
	for range 20000 {
		p := api.Page{Kind: r.Intn(8) - 1, Level: r.Intn(260) - 2, Count: r.Intn(65540) - 2, Body: mixed(r.Intn(api.BodySize+5), r.Int())}
		switch {
		case p.Kind < 1 || p.Kind > 5 || p.Level < 0 || p.Level > 255 || p.Count < 0 || p.Count > 65535:
			wantRefused(t, p, api.ErrArg)
		case len(p.Body) > 248:
			wantRefused(t, p, api.ErrLong)
		default:
			wantSealed(t, p)
			wantOpened(t, model(p), p)
		}
	}
}

// P6.2: what opens is what Seal answers: sealed anew, it is the same bytes.
func TestSealOfOpen(t *testing.T) {
	r := rand.New(rand.NewSource(7))
	for range 2000 {
		b := make([]byte, api.PageSize)
		r.Read(b)
		b[4] = byte(r.Intn(7))
		wantClosed(t, "any bytes", b, api.ErrSum)
		b = resummed(b)
		p, e := page.Open(b)
		if b[4] == 0 || b[4] == 6 {
			wantClosed(t, "any bytes with their Crc", b, api.ErrForm)
			continue
		}
		if e != api.OK || !bytes.Equal(sealed(t, p), b) {
			t.Fatalf("Seal of Open of %v is something else, %v", b, e)
		}
	}
}
