package octet_test

import (
	"bytes"
	"fmt"
	"hash/crc32"
	"math"
	"math/big"
	"math/rand"
	"testing"

	"escritoire/octet"
)

// farPlaces lie in no list; a sum with some of them wraps round.
var farPlaces = []int{math.MinInt, math.MinInt + 1, math.MinInt + 8, -1 << 62, -1 << 32, -9, -8, -2, -1, 1 << 31, 1 << 32, 1 << 61, 1 << 62, math.MaxInt - 8, math.MaxInt - 7, math.MaxInt - 1, math.MaxInt}

// badWidths are none of 1 to 8; with some of them 8 n wraps round to a small number.
var badWidths = []int{math.MinInt, -1 << 61, -1 << 32, -8, -2, -1, 0, 9, 10, 16, 64, 1 << 32, 1 << 61, 1<<61 + 1, 1 << 62, math.MaxInt}

// filled has no byte 0 and none twice, so that a number from a wrong place shows.
func filled(n int) []byte {
	b := make([]byte, n)
	for i := range b {
		b[i] = byte(17*i + 3)
	}
	return b
}

// bigNumber reads by another way than the package does.
func bigNumber(b []byte) *big.Int { return new(big.Int).SetBytes(b) }

func limit() *big.Int { return new(big.Int).Lsh(big.NewInt(1), 62) }

// wantGet is what P1.1 says of Get, in numbers that have no end.
func wantGet(b []byte, at, n int) (int, bool) {
	if n < 1 || n > 8 {
		return 0, false
	}
	end := new(big.Int).Add(big.NewInt(int64(at)), big.NewInt(int64(n)))
	if at < 0 || end.Cmp(big.NewInt(int64(len(b)))) > 0 {
		return 0, false
	}
	x := bigNumber(b[at : at+n])
	if x.Cmp(limit()) > 0 {
		return 0, false
	}
	return int(x.Int64()), true
}

// wantPut is what P1.1 says of Put.
func wantPut(b []byte, at, n, x int) ([]byte, bool) {
	if n < 1 || n > 8 || x < 0 {
		return nil, false
	}
	end := new(big.Int).Add(big.NewInt(int64(at)), big.NewInt(int64(n)))
	if at < 0 || end.Cmp(big.NewInt(int64(len(b)))) > 0 {
		return nil, false
	}
	number := big.NewInt(int64(x))
	if number.Cmp(limit()) > 0 || number.BitLen() > 8*n {
		return nil, false
	}
	out := bytes.Clone(b)
	number.FillBytes(out[at : at+n])
	return out, true
}

func checkGet(t *testing.T, b []byte, at, n int) {
	t.Helper()
	x, ok := octet.Get(b, at, n)
	wx, wok := wantGet(b, at, n)
	if x != wx || ok != wok {
		t.Fatalf("Get(%v, %d, %d) = %d, %v, want %d, %v", b, at, n, x, ok, wx, wok)
	}
}

func checkPut(t *testing.T, b []byte, at, n, x int) {
	t.Helper()
	out, ok := octet.Put(b, at, n, x)
	wout, wok := wantPut(b, at, n, x)
	if !bytes.Equal(out, wout) || ok != wok {
		t.Fatalf("Put(%v, %d, %d, %d) = %v, %v, want %v, %v", b, at, n, x, out, ok, wout, wok)
	}
	if !ok && len(out) != 0 {
		t.Fatalf("Put(%v, %d, %d, %d) is refused and answers %v", b, at, n, x, out)
	}
}

// edgeNumbers are those around the bounds that the chapter names.
func edgeNumbers() []int {
	xs := []int{math.MinInt, math.MinInt + 1, -1 << 62, -256, -2, -1, 1<<62 + 1, 1<<62 + 1<<32, math.MaxInt - 1, math.MaxInt, 0x0102030405060708, 0x3fedcba987654321}
	for k := range 63 {
		xs = append(xs, 1<<k-1, 1<<k)
	}
	return xs
}

func TestExamples(t *testing.T) {
	got := []string{
		fmt.Sprint(octet.Get([]byte{1, 2, 3}, 1, 2)),
		fmt.Sprint(octet.Get([]byte{1, 2, 3}, 2, 2)),
		fmt.Sprint(octet.Put([]byte{0, 0, 0}, 1, 2, 300)),
		fmt.Sprint(octet.Put([]byte{0}, 0, 1, 256)),
		fmt.Sprintf("%x", octet.Crc([]byte("123456789"))),
	}
	want := []string{"515 true", "0 false", "[0 1 44] true", "[] false", "cbf43926"}
	for i := range want {
		if got[i] != want[i] {
			t.Errorf("example %d: %s, want %s", i, got[i], want[i])
		}
	}
}

// P1.1: Get at all widths and places, in and out of short lists.
func TestGetWidthsAndPlaces(t *testing.T) {
	for size := range 12 {
		b := filled(size)
		for n := -3; n <= 12; n++ {
			for at := -12; at <= size+12; at++ {
				checkGet(t, b, at, n)
			}
		}
	}
}

// P1.1: each width by its own number, written out.
func TestGetEachWidth(t *testing.T) {
	b := []byte{255, 1, 2, 3, 4, 5, 6, 7, 8, 255}
	want := []int{0x01, 0x0102, 0x010203, 0x01020304, 0x0102030405, 0x010203040506, 0x01020304050607, 0x0102030405060708}
	for i, w := range want {
		if x, ok := octet.Get(b, 1, i+1); x != w || !ok {
			t.Errorf("Get of %d bytes: %x, %v, want %x", i+1, x, ok, w)
		}
	}
}

// P1.1: numbers at 2^62 and past it, those of all eight bytes with the highest bit too.
func TestGetGreatNumbers(t *testing.T) {
	cases := []struct {
		b  []byte
		x  int
		ok bool
	}{
		{[]byte{63, 255, 255, 255, 255, 255, 255, 255}, 1<<62 - 1, true},
		{[]byte{64, 0, 0, 0, 0, 0, 0, 0}, 1 << 62, true},
		{[]byte{64, 0, 0, 0, 0, 0, 0, 1}, 0, false},
		{[]byte{64, 1, 0, 0, 0, 0, 0, 0}, 0, false},
		{[]byte{127, 255, 255, 255, 255, 255, 255, 255}, 0, false},
		{[]byte{128, 0, 0, 0, 0, 0, 0, 0}, 0, false},
		{[]byte{128, 0, 0, 0, 0, 0, 0, 1}, 0, false},
		{[]byte{192, 0, 0, 0, 0, 0, 0, 0}, 0, false},
		{[]byte{255, 255, 255, 255, 255, 255, 255, 255}, 0, false},
	}
	for _, c := range cases {
		if x, ok := octet.Get(c.b, 0, 8); x != c.x || ok != c.ok {
			t.Errorf("Get(%v, 0, 8) = %d, %v, want %d, %v", c.b, x, ok, c.x, c.ok)
		}
	}
	full := bytes.Repeat([]byte{255}, 9)
	for n := 1; n <= 7; n++ {
		if x, ok := octet.Get(full, 1, n); x != 1<<(8*n)-1 || !ok {
			t.Errorf("Get of %d bytes 255 = %d, %v", n, x, ok)
		}
	}
}

// P1.1, R1: places and widths that no list has.
func TestGetWrongArguments(t *testing.T) {
	for _, b := range [][]byte{nil, {}, {9}, filled(8), filled(300)} {
		for _, at := range append(farPlaces, 0, 1, len(b)) {
			for _, n := range append(badWidths, 1, 2, 7, 8) {
				checkGet(t, b, at, n)
			}
		}
		for _, n := range badWidths {
			for at := range len(b) + 1 {
				checkGet(t, b, at, n)
			}
		}
	}
}

// P1.1: Put at all widths and places, with numbers at all bounds.
func TestPutWidthsPlacesNumbers(t *testing.T) {
	xs := edgeNumbers()
	for size := range 11 {
		b := filled(size)
		for n := -2; n <= 10; n++ {
			for at := -10; at <= size+10; at++ {
				for _, x := range xs {
					checkPut(t, b, at, n, x)
				}
			}
		}
	}
}

// P1.1: for each width the last number that fits, and the first that does not.
func TestPutBounds(t *testing.T) {
	for n := 1; n <= 7; n++ {
		out, ok := octet.Put(make([]byte, 9), 1, n, 1<<(8*n)-1)
		want := append([]byte{0}, bytes.Repeat([]byte{255}, n)...)
		want = append(want, make([]byte, 8-n)...)
		if !ok || !bytes.Equal(out, want) {
			t.Errorf("the last number of %d bytes: %v, %v, want %v", n, out, ok, want)
		}
		if out, ok := octet.Put(make([]byte, 9), 1, n, 1<<(8*n)); ok || len(out) != 0 {
			t.Errorf("one past %d bytes: %v, %v", n, out, ok)
		}
	}
	if out, ok := octet.Put(make([]byte, 8), 0, 8, 1<<62); !ok || !bytes.Equal(out, []byte{64, 0, 0, 0, 0, 0, 0, 0}) {
		t.Errorf("2^62: %v, %v", out, ok)
	}
	for _, x := range []int{1<<62 + 1, math.MaxInt, -1, math.MinInt} {
		if out, ok := octet.Put(make([]byte, 8), 0, 8, x); ok || len(out) != 0 {
			t.Errorf("Put of %d: %v, %v", x, out, ok)
		}
	}
}

// P1.1, R1: places and widths that no list has.
func TestPutWrongArguments(t *testing.T) {
	xs := []int{math.MinInt, -1, 0, 1, 255, 256, 1 << 62, math.MaxInt}
	for _, b := range [][]byte{nil, {}, {9}, filled(8), filled(300)} {
		for _, x := range xs {
			for _, at := range append(farPlaces, 0, 1, len(b)) {
				for _, n := range append(badWidths, 1, 2, 7, 8) {
					checkPut(t, b, at, n, x)
				}
			}
			for _, n := range badWidths {
				for at := range len(b) + 1 {
					checkPut(t, b, at, n, x)
				}
			}
		}
	}
}

// P1.2: against the library's sum of the same rule, at all lengths up to some hundred and at bytes of all kinds.
func TestCrcAsTheLibrary(t *testing.T) {
	r := rand.New(rand.NewSource(1))
	check := func(b []byte) {
		t.Helper()
		if got, want := octet.Crc(b), crc32.ChecksumIEEE(b); got != want {
			t.Fatalf("Crc(%v) = %x, want %x", b, got, want)
		}
	}
	check(nil)
	for c := range 256 {
		check([]byte{byte(c)})
		check([]byte{byte(c), 0})
		check([]byte{0, byte(c)})
	}
	for n := range 300 {
		check(make([]byte, n))
		check(bytes.Repeat([]byte{255}, n))
		b := make([]byte, n)
		r.Read(b)
		check(b)
	}
	long := make([]byte, 1<<20)
	r.Read(long)
	check(long)
}

// P1.2: sums that are known.
func TestCrcKnown(t *testing.T) {
	cases := []struct {
		text string
		sum  uint32
	}{
		{"", 0}, {"\x00", 0xd202ef8d}, {"a", 0xe8b7be43}, {"abc", 0x352441c2}, {"123456789", 0xcbf43926},
		{"The quick brown fox jumps over the lazy dog", 0x414fa339},
	}
	for _, c := range cases {
		if got := octet.Crc([]byte(c.text)); got != c.sum {
			t.Errorf("Crc(%q) = %x, want %x", c.text, got, c.sum)
		}
	}
	if octet.Crc(nil) != octet.Crc([]byte{}) {
		t.Error("nil and an empty list have two sums")
	}
}

// P1.3: what Put laid Get tells, and the bytes around it are as they were.
func TestGetTellsWhatPutLaid(t *testing.T) {
	b := filled(20)
	laid := 0
	for _, x := range edgeNumbers() {
		for n := 1; n <= 8; n++ {
			for at := 0; at+n <= len(b); at++ {
				out, ok := octet.Put(b, at, n, x)
				if !ok {
					continue
				}
				laid++
				if got, ok := octet.Get(out, at, n); !ok || got != x {
					t.Fatalf("Put(_, %d, %d, %d), then Get: %d, %v", at, n, x, got, ok)
				}
				if !bytes.Equal(out[:at], b[:at]) || !bytes.Equal(out[at+n:], b[at+n:]) {
					t.Fatalf("Put(_, %d, %d, %d) changed bytes around it: %v", at, n, x, out)
				}
			}
		}
	}
	if laid == 0 {
		t.Fatal("nothing was laid")
	}
}

// P1.3, the other way: what Get told and Put lays anew are the same bytes.
func TestPutLaysWhatGetTold(t *testing.T) {
	r := rand.New(rand.NewSource(2))
	told := 0
	for range 20000 {
		b := make([]byte, 1+r.Intn(12))
		r.Read(b)
		n := 1 + r.Intn(8)
		at := r.Intn(len(b))
		x, ok := octet.Get(b, at, n)
		if !ok {
			continue
		}
		told++
		out, ok := octet.Put(b, at, n, x)
		if !ok || !bytes.Equal(out, b) {
			t.Fatalf("Get(%v, %d, %d) = %d, and Put lays %v, %v", b, at, n, x, out, ok)
		}
	}
	if told == 0 {
		t.Fatal("nothing was told")
	}
}

// P1.3: one bit that is turned turns the sum, in short lists and in one of a page's size.
func TestOneTurnedBitTurnsTheCrc(t *testing.T) {
	r := rand.New(rand.NewSource(3))
	for _, size := range []int{1, 2, 3, 4, 5, 8, 63, 64, 248, 256, 1024} {
		some := make([]byte, size)
		r.Read(some)
		for _, b := range [][]byte{make([]byte, size), bytes.Repeat([]byte{255}, size), some} {
			want := octet.Crc(b)
			for i := range 8 * size {
				b[i/8] ^= 1 << (i % 8)
				if octet.Crc(b) == want {
					t.Fatalf("%d bytes: bit %d is not seen", size, i)
				}
				b[i/8] ^= 1 << (i % 8)
			}
		}
	}
}

// withSpare is a list with room in front of and behind it that nobody may write.
func withSpare() (whole, b []byte) {
	whole = filled(32)
	return whole, whole[8:20]
}

// R4: what is handed in is as it was, its spare room too, whether the call is taken or refused.
func TestArgumentsAreNotChanged(t *testing.T) {
	whole, b := withSpare()
	before := bytes.Clone(whole)
	for at := -2; at <= len(b)+2; at++ {
		for n := -1; n <= 9; n++ {
			octet.Get(b, at, n)
			for _, x := range []int{-1, 0, 1, 255, 256, 1 << 40, 1 << 62, math.MaxInt} {
				octet.Put(b, at, n, x)
			}
			octet.Crc(b)
			if !bytes.Equal(whole, before) {
				t.Fatalf("at %d, %d bytes: what was handed in is now %v", at, n, whole)
			}
		}
	}
}

// R4: what is answered is new memory, its spare room too, even where the bytes are as they were.
func TestAnswersAreNewMemory(t *testing.T) {
	whole, b := withSpare()
	before := bytes.Clone(whole)
	for n := 1; n <= 8; n++ {
		for at := 0; at+n <= len(b); at++ {
			first, ok1 := octet.Put(b, at, n, int(b[at+n-1]))
			second, ok2 := octet.Put(b, at, n, int(b[at+n-1]))
			if !ok1 || !ok2 {
				t.Fatalf("Put(_, %d, %d, _) is refused", at, n)
			}
			kept := bytes.Clone(second[:cap(second)])
			first = first[:cap(first)]
			for i := range first {
				first[i] ^= 255
			}
			if !bytes.Equal(whole, before) {
				t.Fatalf("at %d, %d bytes: the answer shares memory with the argument", at, n)
			}
			if !bytes.Equal(second[:cap(second)], kept) {
				t.Fatalf("at %d, %d bytes: two answers share memory", at, n)
			}
		}
	}
}

// R4: what was handed in is not kept: what the caller does to it later is not seen in an answer.
func TestArgumentsAreNotKept(t *testing.T) {
	b := filled(10)
	out, _ := octet.Put(b, 2, 3, 70000)
	want := bytes.Clone(out)
	for i := range b {
		b[i] = 0
	}
	if !bytes.Equal(out, want) {
		t.Errorf("the answer is now %v, was %v", out, want)
	}
}

// R5: room behind a list is no part of it, and an answer hangs on the arguments alone.
func TestSpareRoomIsNotSeen(t *testing.T) {
	_, b := withSpare()
	tight := bytes.Clone(b)[:len(b):len(b)]
	if x, ok := octet.Get(b, len(b)-1, 2); ok || x != 0 {
		t.Errorf("Get reads spare room: %d", x)
	}
	if out, ok := octet.Put(b, len(b)-1, 2, 5); ok || len(out) != 0 {
		t.Errorf("Put writes spare room: %v", out)
	}
	for range 3 {
		if octet.Crc(b) != octet.Crc(tight) {
			t.Error("the sum hangs on spare room")
		}
	}
}
