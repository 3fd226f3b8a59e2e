package cell_test

import (
	"bytes"
	"encoding/binary"
	"fmt"
	"hash/crc32"
	"math"
	"math/rand"
	"slices"
	"testing"

	"escritoire/api"
	"escritoire/cell"
	"escritoire/page"
)

// somePiece has in each number all bytes that its limits leave free, each another one.
func somePiece() api.Piece {
	return api.Piece{Page: 0x0E02, Off: 0x31, Len: 0x75, Lines: 0x43}
}

func someKid() api.Kid {
	return api.Kid{Page: 0x0D03, Pieces: 0x010204, Bytes: 0x0A0B0C, Lines: 0x090807}
}

// somePieces are n that may be, no two alike.
func somePieces(n int) []api.Piece {
	l := make([]api.Piece, n)
	for i := range l {
		l[i] = api.Piece{Page: 4095 - 7*i, Off: 2 * i, Len: 180 + i, Lines: 9 * i}
	}
	return l
}

func someKids(n int) []api.Kid {
	l := make([]api.Kid, n)
	for i := range l {
		l[i] = api.Kid{Page: 2 + 300*i, Pieces: 1 + 1000*i, Bytes: 1 + 80000*i, Lines: 70000 * i}
	}
	return l
}

// mixed are n bytes, none of them nought, so that one that is missing or at a wrong place shows.
func mixed(n int) []byte {
	r := rand.New(rand.NewSource(int64(n)))
	b := make([]byte, n)
	for i := range b {
		b[i] = byte(1 + r.Intn(255))
	}
	return b
}

// wide lays the lowest bytes of x, whatever it is, by the library.
func wide(x, width int) []byte {
	return binary.BigEndian.AppendUint64(nil, uint64(x))[8-width:]
}

func pieceBody(l []api.Piece) []byte {
	var b []byte
	for _, p := range l {
		b = slices.Concat(b, wide(p.Page, 4), wide(p.Off, 2), wide(p.Len, 2), wide(p.Lines, 2), []byte{0, 0})
	}
	return b
}

func kidBody(l []api.Kid) []byte {
	var b []byte
	for _, k := range l {
		b = slices.Concat(b, wide(k.Page, 4), wide(k.Pieces, 4), wide(k.Bytes, 8), wide(k.Lines, 4))
	}
	return b
}

// sheet lays a page's parts and sums them by the library, whatever they are.
func sheet(kind, level, count int, body []byte) []byte {
	b := []byte{byte(kind), byte(level), byte(count >> 8), byte(count)}
	b = append(b, body...)
	b = append(b, make([]byte, 252-len(b))...)
	return append(binary.BigEndian.AppendUint32(nil, crc32.ChecksumIEEE(b)), b...)
}

// leafModel is the page of l, whether its pieces may be or not; so are innerModel and textModel.
func leafModel(l []api.Piece) []byte {
	return sheet(api.KindLeaf, 0, len(l), pieceBody(l))
}

func innerModel(level int, l []api.Kid) []byte {
	return sheet(api.KindInner, level, len(l), kidBody(l))
}

func textModel(t []byte) []byte {
	return sheet(api.KindText, 0, len(t), t)
}

// wantLeaf: P8.1, P8.2: the page of l is as the chapter says, and is read; so do wantInner and wantText.
func wantLeaf(t *testing.T, l []api.Piece) {
	t.Helper()
	b, e := cell.Leaf(l)
	if e != api.OK || !bytes.Equal(b, leafModel(l)) {
		t.Errorf("Leaf(%+v) = %v, %v, want %v", l, b, e, leafModel(l))
	}
	if got, e := cell.Pieces(leafModel(l)); e != api.OK || !slices.Equal(got, l) {
		t.Errorf("Pieces of the page of %+v = %+v, %v", l, got, e)
	}
}

func wantInner(t *testing.T, level int, l []api.Kid) {
	t.Helper()
	b, e := cell.Inner(level, l)
	if e != api.OK || !bytes.Equal(b, innerModel(level, l)) {
		t.Errorf("Inner(%d, %+v) = %v, %v, want %v", level, l, b, e, innerModel(level, l))
	}
	if at, got, e := cell.Kids(innerModel(level, l)); e != api.OK || at != level || !slices.Equal(got, l) {
		t.Errorf("Kids of the page of %d, %+v = %d, %+v, %v", level, l, at, got, e)
	}
}

func wantText(t *testing.T, x []byte) {
	t.Helper()
	b, e := cell.Bytes(x)
	if e != api.OK || !bytes.Equal(b, textModel(x)) {
		t.Errorf("Bytes(%v) = %v, %v, want %v", x, b, e, textModel(x))
	}
	if got, e := cell.Text(textModel(x)); e != api.OK || !bytes.Equal(got, x) {
		t.Errorf("Text of the page of %v = %v, %v", x, got, e)
	}
}

// noLeaf: R2, no bytes beside ErrArg; so do noInner and noText.
func noLeaf(t *testing.T, l []api.Piece) {
	t.Helper()
	if b, e := cell.Leaf(l); e != api.ErrArg || len(b) != 0 {
		t.Errorf("Leaf(%+v) = %d bytes, %v, want none, ErrArg", l, len(b), e)
	}
}

func noInner(t *testing.T, level int, l []api.Kid) {
	t.Helper()
	if b, e := cell.Inner(level, l); e != api.ErrArg || len(b) != 0 {
		t.Errorf("Inner(%d, %+v) = %d bytes, %v, want none, ErrArg", level, l, len(b), e)
	}
}

func noText(t *testing.T, x []byte) {
	t.Helper()
	if b, e := cell.Bytes(x); e != api.ErrArg || len(b) != 0 {
		t.Errorf("Bytes of %d = %d bytes, %v, want none, ErrArg", len(x), len(b), e)
	}
}

// noPieces: R2, zero values beside the error; so do noKids and noBytes.
func noPieces(t *testing.T, what string, b []byte, want api.Errno) {
	t.Helper()
	if l, e := cell.Pieces(b); e != want || len(l) != 0 {
		t.Errorf("%s: Pieces = %+v, %v, want none, %v", what, l, e, want)
	}
}

func noKids(t *testing.T, what string, b []byte, want api.Errno) {
	t.Helper()
	if level, l, e := cell.Kids(b); e != want || level != 0 || len(l) != 0 {
		t.Errorf("%s: Kids = %d, %+v, %v, want 0, none, %v", what, level, l, e, want)
	}
}

func noBytes(t *testing.T, what string, b []byte, want api.Errno) {
	t.Helper()
	if x, e := cell.Text(b); e != want || len(x) != 0 {
		t.Errorf("%s: Text = %v, %v, want none, %v", what, x, e, want)
	}
}

// noneReads: what is wrong for each of the three.
func noneReads(t *testing.T, what string, b []byte, want api.Errno) {
	t.Helper()
	noPieces(t, what, b, want)
	noKids(t, what, b, want)
	noBytes(t, what, b, want)
}

func TestExamples(t *testing.T) {
	noLeaf(t, nil)
	noLeaf(t, somePieces(21))
	noText(t, nil)
	b, e := cell.Leaf(somePieces(3))
	if e != api.OK {
		t.Fatal(e)
	}
	noBytes(t, "a leaf", b, api.ErrForm)
}

// P8.1: each number at its place, in its own width, in bytes that are written out here.
func TestPlacesInLeaf(t *testing.T) {
	b, e := cell.Leaf([]api.Piece{somePiece(), {Page: 2, Off: 0, Len: 248, Lines: 248}})
	want := []byte{
		3, 0, 0, 2, // Kind, Level, Count
		0, 0, 14, 2, 0, 49, 0, 117, 0, 67, 0, 0,
		0, 0, 0, 2, 0, 0, 0, 248, 0, 248, 0, 0,
	}
	wantLaid(t, b, e, want)
}

func TestPlacesInInner(t *testing.T) {
	b, e := cell.Inner(31, []api.Kid{someKid(), {Page: 4095, Pieces: 1 << 20, Bytes: 1 << 20, Lines: 1 << 20}})
	want := []byte{
		2, 31, 0, 2, // Kind, Level, Count
		0, 0, 13, 3, 0, 1, 2, 4, 0, 0, 0, 0, 0, 10, 11, 12, 0, 9, 8, 7,
		0, 0, 15, 255, 0, 16, 0, 0, 0, 0, 0, 0, 0, 16, 0, 0, 0, 16, 0, 0,
	}
	wantLaid(t, b, e, want)
}

func TestPlacesInText(t *testing.T) {
	b, e := cell.Bytes([]byte{7, 0, 255, 10})
	wantLaid(t, b, e, []byte{4, 0, 0, 4, 7, 0, 255, 10})
	b, e = cell.Bytes(mixed(api.BodySize))
	wantLaid(t, b, e, append([]byte{4, 0, 0, 248}, mixed(api.BodySize)...))
}

// wantLaid: behind the Crc stands what is asked, and behind it noughts.
func wantLaid(t *testing.T, b []byte, e api.Errno, want []byte) {
	t.Helper()
	if e != api.OK || len(b) != api.PageSize {
		t.Fatalf("%d bytes, %v", len(b), e)
	}
	end := 4 + len(want)
	if !bytes.Equal(b[4:end], want) {
		t.Errorf("ahead stand %v, want %v", b[4:end], want)
	}
	if !bytes.Equal(b[end:], make([]byte, api.PageSize-end)) {
		t.Errorf("behind stand %v, want noughts", b[end:])
	}
	if got, want := binary.BigEndian.Uint32(b), crc32.ChecksumIEEE(b[4:]); got != want {
		t.Errorf("the Crc is %x, want %x", got, want)
	}
}

// P8.1, P8.2: as many as there may be, at each Level; none, and too many.
func TestHowMany(t *testing.T) {
	for n := 1; n <= api.MaxPieces; n++ {
		wantLeaf(t, somePieces(n))
		wantLeaf(t, slices.Repeat([]api.Piece{somePiece()}, n))
	}
	for _, n := range []int{0, api.MaxPieces + 1, api.MaxPieces + 2, 256 + 1, 65536 + 1} {
		noLeaf(t, slices.Repeat([]api.Piece{somePiece()}, n))
	}
	for level := 1; level <= 32; level++ {
		for n := 1; n <= api.MaxKids; n++ {
			wantInner(t, level, someKids(n))
		}
		for _, n := range []int{0, api.MaxKids + 1, api.MaxKids + 2, 256 + 1, 65536 + 1} {
			noInner(t, level, slices.Repeat([]api.Kid{someKid()}, n))
		}
	}
	for n := 1; n <= api.BodySize; n++ {
		wantText(t, mixed(n))
		wantText(t, make([]byte, n))
	}
	for _, n := range []int{0, api.BodySize + 1, api.PageSize, 256 + 1, 65536 + 1} {
		noText(t, mixed(n))
	}
}

// R4: nil and an empty list are one, whatever room is behind it.
func TestEmptyLists(t *testing.T) {
	noLeaf(t, []api.Piece{})
	noLeaf(t, somePieces(3)[:0])
	noInner(t, 1, nil)
	noInner(t, 1, []api.Kid{})
	noInner(t, 1, someKids(3)[:0])
	noText(t, []byte{})
	noText(t, mixed(3)[:0])
}

// P8.1: a Level that may not be, whatever kids there are.
func TestLevels(t *testing.T) {
	for _, level := range []int{math.MinInt, math.MinInt + 1, -1<<32 + 1, -256 + 1, -32, -1, 0, 33, 34, 255, 256, 256 + 1, 1<<32 + 1, 1<<62 + 1, math.MaxInt} {
		noInner(t, level, someKids(1))
		noInner(t, level, someKids(api.MaxKids))
		noInner(t, level, nil)
	}
	for level := range 256 {
		if level < 1 || level > 32 {
			noKids(t, fmt.Sprint("Level ", level), innerModel(level, someKids(2)), api.ErrForm)
		}
		if level > 0 {
			noPieces(t, fmt.Sprint("Level ", level), sheet(api.KindLeaf, level, 2, pieceBody(somePieces(2))), api.ErrForm)
			noBytes(t, fmt.Sprint("Level ", level), sheet(api.KindText, level, 2, mixed(2)), api.ErrForm)
		}
	}
}

// edge is one number's: what sets it, those that may be, those that may not.
type edge[C any] struct {
	name       string
	set        func(c *C, n int)
	good, evil []int
}

// wild may never be, though the lowest bytes of some of them may.
var wild = []int{math.MinInt, math.MinInt + 1, math.MinInt + 2, -1 << 62, -1<<32 + 9, -65536 + 2, -256 + 2, -2, -1, 1<<32 + 2, 1<<60 + 2, 1 << 62, 1<<62 + 9, math.MaxInt - 1, math.MaxInt}

func pieceEdges() []edge[api.Piece] {
	type piece = api.Piece
	return []edge[piece]{
		{"Page", func(p *piece, n int) { p.Page = n }, []int{2, 3, 4094, 4095}, []int{-1, 0, 1, 4096, 4097, 65536 + 2}},
		{"Off by Len 1", func(p *piece, n int) { *p = piece{Page: 9, Off: n, Len: 1} }, []int{0, 1, 246, 247}, []int{-1, 248, 249, 65535, 65536}},
		{"Off by Len 117", func(p *piece, n int) { p.Off = n }, []int{0, 1, 130, 131}, []int{-1, 132, 133, 248, 65536}},
		{"Off by Len 248", func(p *piece, n int) { *p = piece{Page: 9, Off: n, Len: 248, Lines: 1} }, []int{0}, []int{-1, 1, 2, 248}},
		{"Len by Off 0", func(p *piece, n int) { *p = piece{Page: 9, Len: n} }, []int{1, 2, 247, 248}, []int{-1, 0, 249, 250, 65536 + 1}},
		{"Len by Off 49", func(p *piece, n int) { p.Len, p.Lines = n, 0 }, []int{1, 2, 198, 199}, []int{-1, 0, 200, 201, 65536 + 1}},
		{"Len by Off 247", func(p *piece, n int) { *p = piece{Page: 9, Off: 247, Len: n} }, []int{1}, []int{-1, 0, 2, 3, 248}},
		{"Len by Off 248", func(p *piece, n int) { *p = piece{Page: 9, Off: 248, Len: n} }, nil, []int{-1, 0, 1, 2, 248}},
		{"Lines by Len 117", func(p *piece, n int) { p.Lines = n }, []int{0, 1, 116, 117}, []int{-1, 118, 119, 248, 65535, 65536}},
		{"Lines by Len 1", func(p *piece, n int) { *p = piece{Page: 9, Off: 5, Len: 1, Lines: n} }, []int{0, 1}, []int{-1, 2, 3, 6}},
		{"Lines by Len 248", func(p *piece, n int) { *p = piece{Page: 9, Len: 248, Lines: n} }, []int{0, 1, 247, 248}, []int{-1, 249, 65536}},
	}
}

func kidEdges() []edge[api.Kid] {
	type kid = api.Kid
	some := someKid()
	return []edge[kid]{
		{"Page", func(k *kid, n int) { k.Page = n }, []int{2, 3, 4094, 4095}, []int{-1, 0, 1, 4096, 4097, 65536 + 2}},
		{"Pieces", func(k *kid, n int) { k.Pieces = n }, []int{1, 2, some.Bytes - 1, some.Bytes}, []int{-1, 0, some.Bytes + 1, api.MaxText}},
		{"Pieces by Bytes 1", func(k *kid, n int) { *k = kid{Page: 9, Pieces: n, Bytes: 1} }, []int{1}, []int{-1, 0, 2}},
		{"Pieces by MaxText", func(k *kid, n int) { *k = kid{Page: 9, Pieces: n, Bytes: api.MaxText} }, []int{1, api.MaxText - 1, api.MaxText}, []int{-1, 0, api.MaxText + 1}},
		{"Bytes", func(k *kid, n int) { k.Bytes, k.Lines = n, 0 }, []int{some.Pieces, some.Pieces + 1, api.MaxText - 1, api.MaxText}, []int{-1, 0, 1, some.Pieces - 1, api.MaxText + 1, api.MaxText + 2}},
		{"Bytes by Pieces 1", func(k *kid, n int) { *k = kid{Page: 9, Pieces: 1, Bytes: n} }, []int{1, 2, api.MaxText}, []int{-1, 0, api.MaxText + 1}},
		{"Bytes as Pieces", func(k *kid, n int) { *k = kid{Page: 9, Pieces: n, Bytes: n} }, []int{1, 2, api.MaxText}, []int{-1, 0, api.MaxText + 1}},
		{"Lines", func(k *kid, n int) { k.Lines = n }, []int{0, 1, some.Bytes - 1, some.Bytes}, []int{-1, some.Bytes + 1, api.MaxText}},
		{"Lines by Bytes 1", func(k *kid, n int) { *k = kid{Page: 9, Pieces: 1, Bytes: 1, Lines: n} }, []int{0, 1}, []int{-1, 2}},
		{"Lines by MaxText", func(k *kid, n int) { *k = kid{Page: 9, Pieces: 1, Bytes: api.MaxText, Lines: n} }, []int{0, 1, api.MaxText - 1, api.MaxText}, []int{-1, api.MaxText + 1}},
	}
}

// eachPlace hands out lists of c alone, and of others with c as the first, in the midst, and as the last.
func eachPlace[C any](c C, several, full []C, hand func(l []C)) {
	hand([]C{c})
	for _, l := range [][]C{several, full} {
		for _, at := range []int{0, 1, len(l) / 2, len(l) - 1} {
			l := slices.Clone(l)
			l[at] = c
			hand(l)
		}
	}
}

// pieceRoom tells whether the bytes of a piece can tell its numbers as they are.
func pieceRoom(p api.Piece) bool {
	return p.Page>>32 == 0 && p.Off>>16 == 0 && p.Len>>16 == 0 && p.Lines>>16 == 0
}

// kidRoom: any Bytes has room: a negative one is read as one that is too great.
func kidRoom(k api.Kid) bool {
	return k.Page>>32 == 0 && k.Pieces>>32 == 0 && k.Lines>>32 == 0
}

// P8.1: each number of a piece at its edges, beside others that may be; a page of them with a Crc that is right.
func TestPieceEdges(t *testing.T) {
	for _, x := range pieceEdges() {
		for _, n := range x.good {
			p := somePiece()
			x.set(&p, n)
			eachPlace(p, somePieces(3), somePieces(api.MaxPieces), func(l []api.Piece) { wantLeaf(t, l) })
		}
		for _, n := range append(x.evil, wild...) {
			p := somePiece()
			x.set(&p, n)
			eachPlace(p, somePieces(3), somePieces(api.MaxPieces), func(l []api.Piece) {
				noLeaf(t, l)
				if pieceRoom(p) {
					noPieces(t, fmt.Sprint(x.name, ": ", n), leafModel(l), api.ErrForm)
				}
			})
		}
	}
}

// P8.1: each number of a kid likewise, at several Levels.
func TestKidEdges(t *testing.T) {
	for _, level := range []int{1, 2, 31, 32} {
		for _, x := range kidEdges() {
			for _, n := range x.good {
				k := someKid()
				x.set(&k, n)
				eachPlace(k, someKids(3), someKids(api.MaxKids), func(l []api.Kid) { wantInner(t, level, l) })
			}
			for _, n := range append(x.evil, wild...) {
				k := someKid()
				x.set(&k, n)
				eachPlace(k, someKids(3), someKids(api.MaxKids), func(l []api.Kid) {
					noInner(t, level, l)
					if kidRoom(k) {
						noKids(t, fmt.Sprint(x.name, ": ", n), innerModel(level, l), api.ErrForm)
					}
				})
			}
		}
	}
}

// P8.1, R1: Off and Len whose sum is past what an int holds.
func TestGreatOffAndLen(t *testing.T) {
	great := []int{1 << 61, 1 << 62, 1<<62 + 1, math.MaxInt - 248, math.MaxInt - 247, math.MaxInt - 1, math.MaxInt, math.MinInt, math.MinInt + 1, math.MinInt + 248}
	for _, off := range great {
		for _, n := range great {
			noLeaf(t, []api.Piece{{Page: 2, Off: off, Len: n}})
			noLeaf(t, []api.Piece{{Page: 2, Off: off, Len: n, Lines: n}})
			noLeaf(t, []api.Piece{{Page: 2, Off: off, Len: -off}})
		}
	}
	for _, x := range [][2]int{{65535, 1}, {65535, 65535}, {1, 65535}, {248, 65535}, {65288, 248}, {32768, 32768}} {
		noPieces(t, fmt.Sprint("Off and Len ", x), leafModel([]api.Piece{{Page: 2, Off: x[0], Len: x[1]}}), api.ErrForm)
	}
}

// P8.1: all bits, and the first bit, of one number: past what an int holds for a kid's Bytes.
func TestGreatestNumbers(t *testing.T) {
	at := 0
	for i, width := range []int{4, 2, 2, 2, 2} {
		for cells := range 3 {
			for _, x := range greatest(width) {
				b := pieceBody(somePieces(3))
				copy(b[12*cells+at:], x)
				noPieces(t, fmt.Sprint("number ", i, " of cell ", cells, ": ", x), sheet(api.KindLeaf, 0, 3, b), api.ErrForm)
			}
		}
		at += width
	}
	at = 0
	for i, width := range []int{4, 4, 8, 4} {
		for cells := range 3 {
			for _, x := range greatest(width) {
				b := kidBody(someKids(3))
				copy(b[20*cells+at:], x)
				noKids(t, fmt.Sprint("number ", i, " of cell ", cells, ": ", x), sheet(api.KindInner, 1, 3, b), api.ErrForm)
			}
		}
		at += width
	}
}

func greatest(width int) [][]byte {
	first := make([]byte, width)
	first[0] = 128
	second := make([]byte, width)
	second[0] = 64
	return [][]byte{bytes.Repeat([]byte{255}, width), first, second}
}

// P8.1: a kid's Bytes whose lowest bytes alone may be.
func TestHighBytesOfBytes(t *testing.T) {
	for at := range 5 {
		for bit := range 8 {
			b := kidBody([]api.Kid{someKid()})
			b[8+at] |= 1 << bit
			noKids(t, fmt.Sprint("bit ", bit, " of byte ", at), sheet(api.KindInner, 1, 1, b), api.ErrForm)
		}
	}
}

// P8.1: of each piece's two noughts each that is not 0.
func TestNoughtsOfPieces(t *testing.T) {
	for _, n := range []int{1, 3, api.MaxPieces} {
		for i := range n {
			for k := range 2 {
				for _, x := range []byte{1, 128, 255} {
					b := pieceBody(somePieces(n))
					b[12*i+10+k] = x
					noPieces(t, fmt.Sprint("nought ", k, " of piece ", i, " of ", n), sheet(api.KindLeaf, 0, n, b), api.ErrForm)
				}
			}
		}
	}
}

// P8.1: a byte behind the cells, at each place.
func TestTails(t *testing.T) {
	for _, n := range []int{1, 2, api.MaxPieces} {
		tails(pieceBody(somePieces(n)), func(what string, body []byte) {
			noPieces(t, what, sheet(api.KindLeaf, 0, n, body), api.ErrForm)
		})
	}
	for _, n := range []int{1, 2, api.MaxKids} {
		tails(kidBody(someKids(n)), func(what string, body []byte) {
			noKids(t, what, sheet(api.KindInner, 7, n, body), api.ErrForm)
		})
	}
	for _, n := range []int{1, 2, 100, api.BodySize - 1} {
		tails(mixed(n), func(what string, body []byte) {
			noBytes(t, what, sheet(api.KindText, 0, n, body), api.ErrForm)
		})
	}
}

// tails hands out Bodies that begin with own and have one byte behind it that is not 0.
func tails(own []byte, hand func(what string, body []byte)) {
	for at := len(own); at < api.BodySize; at++ {
		for _, x := range []byte{1, 128, 255} {
			body := append(bytes.Clone(own), make([]byte, api.BodySize-len(own))...)
			body[at] = x
			hand(fmt.Sprint(len(own), " bytes, byte ", x, " at ", at), body)
		}
	}
}

// P8.1: a Count of 0, one too great, and one that is not that of the cells.
func TestCounts(t *testing.T) {
	full := append(pieceBody(somePieces(api.MaxPieces)), make([]byte, 8)...)
	for _, n := range []int{0, 19, 21, 22, 255, 256, 256 + 20, 65535} {
		noPieces(t, fmt.Sprint("Count ", n), sheet(api.KindLeaf, 0, n, full), api.ErrForm)
	}
	full = append(kidBody(someKids(api.MaxKids)), make([]byte, 8)...)
	for _, n := range []int{0, 11, 13, 14, 20, 255, 256, 256 + 12, 65535} {
		noKids(t, fmt.Sprint("Count ", n), sheet(api.KindInner, 1, n, full), api.ErrForm)
	}
	for _, n := range []int{0, 1, 247, 249, 250, 252, 256, 256 + 248, 65535} {
		noBytes(t, fmt.Sprint("Count ", n), sheet(api.KindText, 0, n, mixed(api.BodySize)), api.ErrForm)
	}
	for _, n := range []int{0, 1, 3, 20} {
		noPieces(t, fmt.Sprint("Count ", n, " of two pieces"), sheet(api.KindLeaf, 0, n, pieceBody(somePieces(2))), api.ErrForm)
	}
	for _, n := range []int{0, 1, 3, 12} {
		noKids(t, fmt.Sprint("Count ", n, " of two kids"), sheet(api.KindInner, 1, n, kidBody(someKids(2))), api.ErrForm)
	}
	for _, n := range []int{0, 249, 65535} {
		noBytes(t, fmt.Sprint("Count ", n, " of noughts"), sheet(api.KindText, 0, n, nil), api.ErrForm)
	}
	noneReads(t, "leaf of nothing", sheet(api.KindLeaf, 0, 0, nil), api.ErrForm)
	noneReads(t, "inner page of nothing", sheet(api.KindInner, 1, 0, nil), api.ErrForm)
	noneReads(t, "text page of nothing", sheet(api.KindText, 0, 0, nil), api.ErrForm)
}

// P8.1: a text's own noughts are its bytes, by its Count alone.
func TestTextOfNoughts(t *testing.T) {
	for n := 1; n <= api.BodySize; n++ {
		x, e := cell.Text(sheet(api.KindText, 0, n, []byte{5}))
		if e != api.OK || len(x) != n || x[0] != 5 || !bytes.Equal(x[1:], make([]byte, n-1)) {
			t.Errorf("Count %d: Text = %v, %v", n, x, e)
		}
	}
}

// bodies are such as one of the three reads, each with its own Kind, Level and Count.
func bodies() []api.Page {
	return []api.Page{
		{Kind: api.KindLeaf, Level: 0, Count: 3, Body: pieceBody(somePieces(3))},
		{Kind: api.KindInner, Level: 1, Count: 3, Body: kidBody(someKids(3))},
		{Kind: api.KindText, Level: 0, Count: 60, Body: mixed(60)},
	}
}

// P8.1: a Kind that there is not is page.Open's ErrForm; each other Kind is ErrForm too, whatever the Body and the Level.
func TestKinds(t *testing.T) {
	for _, p := range bodies() {
		for kind := range 256 {
			for _, level := range []int{0, 1} {
				b := sheet(kind, level, p.Count, p.Body)
				what := fmt.Sprint("Kind ", kind, ", Level ", level)
				if kind != api.KindLeaf {
					noPieces(t, what, b, api.ErrForm)
				}
				if kind != api.KindInner {
					noKids(t, what, b, api.ErrForm)
				}
				if kind != api.KindText {
					noBytes(t, what, b, api.ErrForm)
				}
			}
		}
	}
}

// P8.1: any other number of bytes than PageSize is page.Open's ErrArg.
func TestLengths(t *testing.T) {
	noneReads(t, "nil", nil, api.ErrArg)
	noneReads(t, "empty", []byte{}, api.ErrArg)
	for _, p := range bodies() {
		long := append(sheet(p.Kind, p.Level, p.Count, p.Body), make([]byte, api.PageSize)...)
		for n := range len(long) + 1 {
			if n != api.PageSize {
				noneReads(t, fmt.Sprint("Kind ", p.Kind, ", ", n, " bytes"), long[:n], api.ErrArg)
			}
		}
	}
}

// P8.1: every bit that is turned is page.Open's ErrSum; so are 256 noughts.
func TestTurnedBits(t *testing.T) {
	noneReads(t, "noughts", make([]byte, api.PageSize), api.ErrSum)
	for _, p := range bodies() {
		b := sheet(p.Kind, p.Level, p.Count, p.Body)
		for bit := range 8 * api.PageSize {
			b[bit/8] ^= 1 << (bit % 8)
			noneReads(t, fmt.Sprint("Kind ", p.Kind, ", bit ", bit), b, api.ErrSum)
			b[bit/8] ^= 1 << (bit % 8)
		}
	}
}

// wrongForms have a Crc that is right, and are wrong else, each by one reason; the last by all of them.
func wrongForms() [][]byte {
	evilPiece, evilKid := somePiece(), someKid()
	evilPiece.Len, evilKid.Pieces = 0, 0
	return [][]byte{
		sheet(0, 0, 3, pieceBody(somePieces(3))),
		sheet(6, 0, 3, pieceBody(somePieces(3))),
		sheet(api.KindSuper, 0, 3, pieceBody(somePieces(3))),
		sheet(api.KindBlob, 1, 3, kidBody(someKids(3))),
		sheet(api.KindLeaf, 1, 3, pieceBody(somePieces(3))),
		sheet(api.KindLeaf, 0, 0, pieceBody(somePieces(3))),
		sheet(api.KindLeaf, 0, 21, pieceBody(somePieces(3))),
		sheet(api.KindLeaf, 0, 3, append(pieceBody(somePieces(3)), 1)),
		leafModel([]api.Piece{somePiece(), evilPiece}),
		innerModel(0, someKids(3)),
		innerModel(33, someKids(3)),
		sheet(api.KindInner, 1, 13, kidBody(someKids(3))),
		sheet(api.KindInner, 1, 3, append(kidBody(someKids(3)), 1)),
		innerModel(1, []api.Kid{someKid(), evilKid}),
		sheet(api.KindText, 1, 3, mixed(3)),
		sheet(api.KindText, 0, 249, mixed(3)),
		sheet(api.KindText, 0, 2, mixed(3)),
		sheet(9, 99, 999, mixed(api.BodySize)),
	}
}

// R6: page.Open's error comes ahead of ErrForm, whatever else is wrong.
func TestOpensErrorFirst(t *testing.T) {
	for i, b := range wrongForms() {
		noneReads(t, fmt.Sprint("page ", i), b, api.ErrForm)
		noneReads(t, fmt.Sprint("page ", i, ", one byte less"), b[:api.PageSize-1], api.ErrArg)
		noneReads(t, fmt.Sprint("page ", i, ", one byte more"), append(bytes.Clone(b), 0), api.ErrArg)
		b[2] ^= 16
		noneReads(t, fmt.Sprint("page ", i, ", another Crc"), b, api.ErrSum)
		noneReads(t, fmt.Sprint("page ", i, ", another Crc, one byte less"), b[:api.PageSize-1], api.ErrArg)
	}
}

// R2, R6: zero values, and all wrong at once.
func TestNothingRight(t *testing.T) {
	noLeaf(t, make([]api.Piece, 1))
	noLeaf(t, make([]api.Piece, api.MaxPieces+1))
	noInner(t, 0, make([]api.Kid, 1))
	noInner(t, 1, make([]api.Kid, 1))
	noInner(t, 33, make([]api.Kid, api.MaxKids+1))
	noPieces(t, "a piece of noughts", leafModel(make([]api.Piece, 1)), api.ErrForm)
	noKids(t, "a kid of noughts", innerModel(1, make([]api.Kid, 1)), api.ErrForm)
	for _, n := range wild {
		noLeaf(t, []api.Piece{{Page: n, Off: n, Len: n, Lines: n}})
		noInner(t, n, []api.Kid{{Page: n, Pieces: n, Bytes: n, Lines: n}})
		noInner(t, 1, []api.Kid{{Page: n, Pieces: n, Bytes: n, Lines: n}})
	}
}

// P8.1: what is made is a page that page.Open takes, of its Kind, Level and Count.
func TestPages(t *testing.T) {
	a, _ := cell.Leaf(somePieces(3))
	b, _ := cell.Inner(1, someKids(3))
	c, _ := cell.Bytes(mixed(60))
	for i, want := range bodies() {
		p, e := page.Open([][]byte{a, b, c}[i])
		if e != api.OK || p.Kind != want.Kind || p.Level != want.Level || p.Count != want.Count || !bytes.Equal(p.Body[:len(want.Body)], want.Body) {
			t.Errorf("page %d is %+v, %v", i, p, e)
		}
	}
}

// scribble turns every bit of b, and of the room behind it.
func scribble(b []byte) {
	b = b[:cap(b)]
	for i := range b {
		b[i] = ^b[i]
	}
}

// R4: what is handed in to the makers is neither changed, spare room included, nor kept.
func TestMakersShareNothing(t *testing.T) {
	for _, n := range []int{1, 5, 11, 12} {
		for _, evil := range []bool{false, true} {
			l, k, x := somePieces(20), someKids(12), mixed(300)
			if evil {
				l[n-1].Len, k[n-1].Bytes = 0, 0
			}
			wantL, wantK, wantX := slices.Clone(l), slices.Clone(k), bytes.Clone(x)
			a, _ := cell.Leaf(l[:n])
			b, _ := cell.Inner(3, k[:n])
			c, _ := cell.Bytes(x[:n])
			cell.Bytes(x)
			models := [][]byte{leafModel(l[:n]), innerModel(3, k[:n]), textModel(x[:n])}
			if !slices.Equal(l, wantL) || !slices.Equal(k, wantK) || !bytes.Equal(x, wantX) {
				t.Fatalf("%d: what was handed in was changed", n)
			}
			clear(l)
			clear(k)
			clear(x)
			if !evil && (!bytes.Equal(a, models[0]) || !bytes.Equal(b, models[1])) || !bytes.Equal(c, models[2]) {
				t.Errorf("%d: an answer changed with what was handed in", n)
			}
			copy(x, wantX)
			scribble(c)
			if !bytes.Equal(x, wantX) {
				t.Errorf("%d: what was handed in changed with the answer", n)
			}
		}
	}
}

// R4: what is handed in to the readers is neither changed, spare room included, nor kept.
func TestReadersShareNothing(t *testing.T) {
	pages := wrongForms()
	for _, p := range bodies() {
		pages = append(pages, sheet(p.Kind, p.Level, p.Count, p.Body))
	}
	for i, b := range pages {
		room := append(bytes.Clone(b), mixed(300)...)
		before := bytes.Clone(room)
		l, _ := cell.Pieces(room[:api.PageSize])
		_, k, _ := cell.Kids(room[:api.PageSize])
		x, _ := cell.Text(room[:api.PageSize])
		cell.Pieces(room)
		cell.Kids(room)
		cell.Text(room)
		if !bytes.Equal(room, before) {
			t.Fatalf("page %d: what was handed in was changed", i)
		}
		wantL, wantK, wantX := slices.Clone(l), slices.Clone(k), bytes.Clone(x)
		clear(room)
		if !slices.Equal(l, wantL) || !slices.Equal(k, wantK) || !bytes.Equal(x, wantX) {
			t.Errorf("page %d: an answer changed with what was handed in", i)
		}
		copy(room, before)
		scribble(x)
		if !bytes.Equal(room, before) {
			t.Errorf("page %d: what was handed in changed with the answer", i)
		}
	}
}

// R4: the answers of two calls share nothing either, spare room too.
func TestAnswersShareNothing(t *testing.T) {
	made := func() [][]byte {
		a, _ := cell.Leaf(somePieces(4))
		b, _ := cell.Inner(2, someKids(4))
		c, _ := cell.Bytes(mixed(40))
		d, _ := cell.Text(textModel(mixed(40)))
		return [][]byte{a, b, c, d}
	}
	one, two := made(), made()
	for i := range one {
		scribble(one[i])
	}
	for i, want := range [][]byte{leafModel(somePieces(4)), innerModel(2, someKids(4)), textModel(mixed(40)), mixed(40)} {
		if !bytes.Equal(two[i], want) {
			t.Errorf("two answers of %d share bytes", i)
		}
	}
	first, _ := cell.Pieces(leafModel(somePieces(4)))
	second, _ := cell.Pieces(leafModel(somePieces(4)))
	clear(first[:cap(first)])
	if !slices.Equal(second, somePieces(4)) {
		t.Error("two answers of Pieces share pieces")
	}
	_, some, _ := cell.Kids(innerModel(2, someKids(4)))
	_, other, _ := cell.Kids(innerModel(2, someKids(4)))
	clear(some[:cap(some)])
	if !slices.Equal(other, someKids(4)) {
		t.Error("two answers of Kids share kids")
	}
}

// pieceMayBe and kidMayBe tell the chapter's sentences in another way: by what is wrong.
func pieceMayBe(p api.Piece) bool {
	switch {
	case p.Page < 2, p.Page > 4095, p.Len < 1, p.Off < 0, p.Len > 248, p.Off > 248, p.Off+p.Len > 248, p.Lines < 0, p.Lines > p.Len:
		return false
	}
	return true
}

func kidMayBe(k api.Kid) bool {
	switch {
	case k.Page < 2, k.Page > 4095, k.Pieces < 1, k.Bytes < k.Pieces, k.Bytes > 1048576, k.Lines < 0, k.Lines > k.Bytes:
		return false
	}
	return true
}

// P8.1, P8.2: many leaves and inner pages, most of them near to the edges, against the chapter's sentences told in another way.
func TestManyLists(t *testing.T) {
	r := rand.New(rand.NewSource(8))
	pick := func(of ...int) int { return of[r.Intn(len(of))] }
	rare := func(good int, evil ...int) int {
		if r.Intn(60) == 0 {
			return pick(evil...)
		}
		return good
	}
	taken, refused := 0, 0
	for range 20000 {
		l := make([]api.Piece, r.Intn(api.MaxPieces+2))
		right := len(l) >= 1 && len(l) <= api.MaxPieces
		room := len(l) <= api.MaxPieces
		for i := range l {
			p := api.Piece{Page: rare(2+r.Intn(4094), -1, 0, 1, 4096), Off: rare(r.Intn(248), -1, 248)}
			p.Len = rare(1+r.Intn(max(1, 248-p.Off)), -1, 0, 248-p.Off, 249-p.Off)
			p.Lines = rare(r.Intn(max(1, p.Len+1)), -1, p.Len, p.Len+1)
			l[i] = p
			right = right && pieceMayBe(p)
			room = room && pieceRoom(p)
		}
		if right {
			taken++
			wantLeaf(t, l)
			continue
		}
		refused++
		noLeaf(t, l)
		if room {
			noPieces(t, fmt.Sprintf("%+v", l), leafModel(l), api.ErrForm)
		}
	}
	for range 20000 {
		k := make([]api.Kid, r.Intn(api.MaxKids+2))
		level := rare(1+r.Intn(32), -1, 0, 33, 255)
		right := len(k) >= 1 && len(k) <= api.MaxKids && level >= 1 && level <= 32
		room := len(k) <= api.MaxKids && level >= 0
		for i := range k {
			x := api.Kid{Page: rare(2+r.Intn(4094), -1, 0, 1, 4096), Pieces: rare(1+r.Intn(api.MaxText), -1, 0, 1)}
			x.Bytes = rare(x.Pieces+r.Intn(max(1, api.MaxText-x.Pieces)), -1, 0, x.Pieces-1, x.Pieces, api.MaxText, api.MaxText+1)
			x.Lines = rare(r.Intn(max(1, x.Bytes+1)), -1, x.Bytes, x.Bytes+1)
			k[i] = x
			right = right && kidMayBe(x)
			room = room && kidRoom(x)
		}
		if right {
			taken++
			wantInner(t, level, k)
			continue
		}
		refused++
		noInner(t, level, k)
		if room {
			noKids(t, fmt.Sprintf("%d, %+v", level, k), innerModel(level, k), api.ErrForm)
		}
	}
	if taken < 8000 || refused < 8000 {
		t.Errorf("%d may be, %d may not: too few to tell", taken, refused)
	}
}

// P8.2: what is read, made again, is the same bytes; R1: whatever bytes there are, near to such as may be.
func TestMadeAgain(t *testing.T) {
	r := rand.New(rand.NewSource(9))
	readAnew, refused := 0, 0
	for range 60000 {
		p := anyPage(r)
		for range r.Intn(3) {
			p.Body[r.Intn(api.BodySize)] ^= 1 << r.Intn(8)
		}
		switch r.Intn(12) {
		case 0:
			p.Count += r.Intn(3) - 1
		case 1:
			p.Level = r.Intn(34)
		case 2:
			p.Kind = r.Intn(7)
		}
		b := sheet(p.Kind, p.Level, p.Count, p.Body)
		if again := madeAgain(t, b); again == nil {
			refused++
		} else if readAnew++; !bytes.Equal(again, b) {
			t.Fatalf("read and made again, %v is %v", b, again)
		}
	}
	if readAnew < 10000 || refused < 10000 {
		t.Errorf("%d were read, %d were not: too few to tell", readAnew, refused)
	}
}

// anyPage is one that may be, its Body with noughts.
func anyPage(r *rand.Rand) api.Page {
	p := api.Page{Kind: api.KindLeaf, Count: 1 + r.Intn(api.MaxPieces)}
	own := pieceBody(somePieces(p.Count))
	switch r.Intn(3) {
	case 0:
		p = api.Page{Kind: api.KindInner, Level: 1 + r.Intn(32), Count: 1 + r.Intn(api.MaxKids)}
		own = kidBody(someKids(p.Count))
	case 1:
		p = api.Page{Kind: api.KindText, Count: 1 + r.Intn(api.BodySize)}
		own = mixed(p.Count)
	}
	p.Body = append(own, make([]byte, api.BodySize-len(own))...)
	return p
}

// madeAgain hands b to the three, of which one at most takes it, and makes what it answers again; nil if none takes it.
func madeAgain(t *testing.T, b []byte) []byte {
	t.Helper()
	var all [][]byte
	l, e := cell.Pieces(b)
	if e == api.OK {
		again, _ := cell.Leaf(l)
		all = append(all, again)
	}
	level, k, f := cell.Kids(b)
	if f == api.OK {
		again, _ := cell.Inner(level, k)
		all = append(all, again)
	}
	x, g := cell.Text(b)
	if g == api.OK {
		again, _ := cell.Bytes(x)
		all = append(all, again)
	}
	for _, e := range []api.Errno{e, f, g} {
		if e != api.OK && e != api.ErrForm {
			t.Fatalf("%v: %v", b, e)
		}
	}
	if len(all) > 1 {
		t.Fatalf("%v is read as two things", b)
	}
	if len(all) == 0 {
		return nil
	}
	return append([]byte{}, all[0]...)
}

// R1: any bytes, of any number, are refused by page.Open.
func TestAnyBytes(t *testing.T) {
	r := rand.New(rand.NewSource(10))
	for range 3000 {
		b := make([]byte, r.Intn(2*api.PageSize))
		want := api.ErrArg
		if len(b) == api.PageSize || r.Intn(2) == 0 {
			b, want = make([]byte, api.PageSize), api.ErrSum
		}
		r.Read(b)
		noneReads(t, "any bytes", b, want)
	}
}
