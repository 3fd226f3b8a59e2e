package real_test

import (
	"fmt"
	"math"
	"math/big"
	"regexp"
	"strconv"
	"strings"
	"testing"

	"escritoire/real"
)

var (
	negZero  = math.Copysign(0, -1)
	inf      = math.Inf(1)
	nan      = math.NaN()
	smallest = math.SmallestNonzeroFloat64
	normal   = math.Float64frombits(1 << 52) // the least of the normal numbers
	below    = math.Float64frombits(1<<52 - 1)
)

const nanBits = 0x7FF8000000000001

// ordered holds numbers as P3.1 orders them.
func ordered() []float64 {
	return []float64{
		-inf, -math.MaxFloat64, -1e15, -999999999999999, -2, -1.5, math.Nextafter(-1, -2), -1, -0.5,
		-normal, -below, -2 * smallest, -smallest, negZero,
		0, smallest, 2 * smallest, below, normal, 0.1, 0.5, math.Nextafter(1, 0), 1, math.Nextafter(1, 2), 1.5, 2, 10,
		999999999999998, 999999999999999, 999999999999999.5, math.Nextafter(1e15, 0), 1e15, 1e15 + 0.5, 1e16, 1 << 62, math.MaxFloat64, inf, nan,
	}
}

// nans differ in their bits: quiet and signalling ones, with and without their sign.
func nans() []float64 {
	var l []float64
	for _, b := range []uint64{nanBits, 0x7FF8000000000000, 0x7FF0000000000001, 0x7FF4000000000000, 0x7FFFFFFFFFFFFFFF, 0xFFF8000000000000, 0xFFF8000000000001, 0xFFF0000000000001, 0xFFFFFFFFFFFFFFFF} {
		l = append(l, math.Float64frombits(b))
	}
	return l
}

// many are numbers of all sizes, the same ones at each run: bits from a fixed rule, some of them moved to small and to whole numbers.
func many(count int) []float64 {
	var l []float64
	b := uint64(1)
	for range count {
		b = b*6364136223846793005 + 1442695040888963407
		mixed := b ^ b>>29
		l = append(l, math.Float64frombits(mixed))
		l = append(l, math.Float64frombits(mixed&^(0x7FF<<52)))        // below the normal ones
		l = append(l, math.Float64frombits(mixed&(0xFFF<<52|0xF<<48))) // few digits
		l = append(l, float64(int64(mixed)>>(mixed&63)))               // whole numbers
		l = append(l, float64(int64(mixed)>>16)/1024)
	}
	return l
}

func all() []float64 {
	return append(append(ordered(), nans()...), many(2000)...)
}

func isSame(a, b float64) bool {
	return math.Float64bits(a) == math.Float64bits(b) || math.IsNaN(a) && math.IsNaN(b)
}

func TestCompareOrders(t *testing.T) {
	l := ordered()
	for i, a := range l {
		for k, b := range l {
			want := 0
			if i < k {
				want = -1
			} else if i > k {
				want = 1
			}
			if got := real.Compare(a, b); got != want {
				t.Errorf("Compare(%v, %v) = %d, want %d", a, b, got, want)
			}
		}
	}
}

func TestCompareTakesEachNaNAlike(t *testing.T) {
	for _, a := range nans() {
		for _, b := range nans() {
			if got := real.Compare(a, b); got != 0 {
				t.Errorf("Compare(%x, %x) = %d", math.Float64bits(a), math.Float64bits(b), got)
			}
		}
		for _, x := range ordered()[:len(ordered())-1] {
			if real.Compare(a, x) != 1 || real.Compare(x, a) != -1 {
				t.Errorf("NaN %x is not behind %v", math.Float64bits(a), x)
			}
		}
	}
}

func TestCompareBySize(t *testing.T) {
	l := many(2000)
	for i, a := range l[1:] {
		b := l[i]
		if a < b && real.Compare(a, b) != -1 || a > b && real.Compare(a, b) != 1 {
			t.Errorf("Compare(%v, %v) = %d", a, b, real.Compare(a, b))
		}
	}
}

func TestBits(t *testing.T) {
	for _, x := range nans() {
		if got := real.Bits(x); got != nanBits {
			t.Errorf("Bits of NaN %x = %x", math.Float64bits(x), got)
		}
	}
	for _, x := range append(ordered(), many(500)...) {
		if got := real.Bits(x); !math.IsNaN(x) && got != math.Float64bits(x) {
			t.Errorf("Bits(%v) = %x", x, got)
		}
	}
	if real.Bits(0) != 0 || real.Bits(negZero) != 1<<63 || real.Bits(1) != 0x3FF<<52 || real.Bits(inf) != 0x7FF<<52 || real.Bits(smallest) != 1 {
		t.Error("Bits of 0, -0, 1, inf or the smallest number")
	}
}

func TestShow(t *testing.T) {
	for _, c := range []struct {
		x    float64
		want string
	}{
		{nan, "nan"}, {inf, "inf"}, {-inf, "-inf"}, {0, "0"}, {negZero, "-0"}, {1, "1"}, {-1, "-1"}, {10, "10"}, {-12345, "-12345"},
		{999999999999999, "999999999999999"}, {-999999999999999, "-999999999999999"},
		{math.Nextafter(1e15, 0), "0x1.c6bf52633ffffp+49"}, {999999999999999.5, "0x1.c6bf52633fffcp+49"},
		{1e15, "0x1.c6bf52634p+49"}, {-1e15, "-0x1.c6bf52634p+49"}, {1 << 52, "0x1p+52"}, {math.MinInt64, "-0x1p+63"},
		{0.5, "0x1p-1"}, {1.5, "0x1.8p+0"}, {-3.5, "-0x1.cp+1"}, {0.1, "0x1.999999999999ap-4"},
		{1 + 1.0/16, "0x1.1p+0"}, {1 + 1.0/256, "0x1.01p+0"}, {math.Nextafter(1, 2), "0x1.0000000000001p+0"}, {1.0 / 1024, "0x1p-10"},
		{math.MaxFloat64, "0x1.fffffffffffffp+1023"}, {normal, "0x1p-1022"}, {below, "0x1.ffffffffffffep-1023"}, {-below, "-0x1.ffffffffffffep-1023"},
		{smallest, "0x1p-1074"}, {-smallest, "-0x1p-1074"}, {3 * smallest, "0x1.8p-1073"}, {normal / 2, "0x1p-1023"},
	} {
		if got := real.Show(c.x); got != c.want {
			t.Errorf("Show(%v) = %q, want %q", c.x, got, c.want)
		}
	}
	for _, x := range nans() {
		if got := real.Show(x); got != "nan" {
			t.Errorf("Show of NaN %x = %q", math.Float64bits(x), got)
		}
	}
	zero := 1e300
	if got := real.Show(zero - zero); got != "0" {
		t.Errorf("Show(1e300 - 1e300) = %q", got)
	}
}

// byLibrary is what Show is to say, made from what Go's library says: there an exponent has two digits at least.
func byLibrary(x float64) string {
	if math.Abs(x) < 1e15 && x == math.Floor(x) {
		return strconv.FormatFloat(x, 'f', 0, 64)
	}
	head, exp, _ := strings.Cut(strconv.FormatFloat(x, 'x', -1, 64), "p")
	if len(exp) == 3 && exp[1] == '0' {
		exp = exp[:1] + exp[2:]
	}
	return head + "p" + exp
}

func TestShowAgainstLibrary(t *testing.T) {
	for _, x := range append(ordered(), many(2000)...) {
		if math.IsNaN(x) || math.IsInf(x, 0) {
			continue
		}
		if got, want := real.Show(x), byLibrary(x); got != want {
			t.Errorf("Show(%v) = %q, want %q", x, got, want)
		}
	}
}

func TestRead(t *testing.T) {
	for _, c := range []struct {
		s    string
		want float64
	}{
		{"nan", nan}, {"inf", inf}, {"-inf", -inf}, {"0", 0}, {"-0", negZero}, {"0.0", 0}, {"-0.0", negZero}, {"-0.00000000000000", negZero},
		{"1", 1}, {"-1", -1}, {"10", 10}, {"3.5", 3.5}, {"-3.5", -3.5}, {"0.1", 0.1}, {"0.10", 0.1}, {"3.0", 3}, {"0.05", 0.05}, {"100.001", 100.001},
		{"123456789012345", 123456789012345}, {"-123456789012345", -123456789012345}, {"999999999999999", 999999999999999},
		{"12345678.9012345", 12345678.9012345}, {"9.99999999999999", 9.99999999999999}, {"0.00000000000001", 1e-14}, {"-0.99999999999999", -0.99999999999999},
		{"0x1p-1", 0.5}, {"-0x1p-1", -0.5}, {"0x1.8p+0", 1.5}, {"-0x1.cp+1", -3.5}, {"0x1.c6bf52634p+49", 1e15}, {"0x1.c6bf52633fffcp+49", 999999999999999.5},
		{"0x1.fffffffffffffp+1023", math.MaxFloat64}, {"0x1p-1022", normal}, {"0x1.ffffffffffffep-1023", below}, {"0x1p-1074", smallest}, {"-0x1p-1074", -smallest}, {"0x1.8p-1073", 3 * smallest},
	} {
		if got, ok := real.Read(c.s); !ok || !isSame(got, c.want) {
			t.Errorf("Read(%q) = %v, %v, want %v", c.s, got, ok, c.want)
		}
	}
}

func TestReadRefuses(t *testing.T) {
	for _, s := range []string{
		"", "-", ".", "-.", "+1", "+inf", "-nan", "NaN", "Inf", "infinity", "nan ", " 1", "1 ", "1\n", "--1", "1-", "- 1", "−1",
		"00", "-00", "03", "-03", "00.5", "01.5", ".5", "-.5", "5.", "-5.", "1.5.5", "1..5", "1,5", "1_0", "1e5", "1E5", "0e0", "1p+1", "a", "1a", "1.a", "٣",
		"1234567890123456", "-1234567890123456", "1000000000000000", "0000000000000001", "0.000000000000001", "0.000000000000000", "12345678.90123456", "1.000000000000000",
		strings.Repeat("1", 400), "1." + strings.Repeat("0", 400),
		// Whole numbers, which Show says by decimal digits.
		"0x1.8p+1", "0x1p+0", "-0x1p+0", "0x1.c6bf52633fff8p+49", "0x0p+0", "-0x0p+0",
		// Not as few digits as tell it, or not the leading 1.
		"0x1.80p+1", "0x1.80p+0", "0x1.0p-1", "0x1.p-1", "0x1.99999999999990p-4", "0x1.999999999999a0p-4", "0x1.999999999999a8p-4", "0x2p-2", "0x0.8p+0", "0x0.1p-1", "0x01p-1", "0x.8p-1", "0xp-1", "0x11p-5", "0x8p-4",
		// Other signs, letters and exponents.
		"0X1p-1", "0x1P-1", "0x1.Ap-1", "+0x1p-1", "--0x1p-1", "0x1p1", "0x1.8p0", "0x1.8p-0", "0x1p-01", "0x1.8p+00", "0x1.8p+", "0x1.8p", "0x1.8", "0x1", "0x", "0x1.gp+0", "0x1_.8p+0", "0x_1p-1", "0x1p-1 ", "0x1p-1p-1", "0x1p--1", "0x1.8.8p+0", "x1p-1",
		// No number has that size, or those digits.
		"0x1p+1024", "-0x1p+1024", "0x1p+99999999999999999999", "0x1p-1075", "0x1p-99999999999999999999", "0x1.8p-1074", "0x1.fffffffffffffp-1023", "0x1.ffffffffffffffp-1", "0x1." + strings.Repeat("f", 400) + "p-1",
	} {
		if got, ok := real.Read(s); ok || math.Float64bits(got) != 0 {
			t.Errorf("Read(%q) = %v, %v, want 0, false", s, got, ok)
		}
	}
}

func TestReadRefusesEachOtherByte(t *testing.T) {
	for c := range 256 {
		if '0' <= c && c <= '9' {
			continue
		}
		other := string([]byte{byte(c)})
		for _, s := range []string{other, "1" + other, other + other + "1", "1." + other, "1.5" + other, "0x1." + other + "p-1", "0x1p-1" + other} {
			if 'a' <= c && c <= 'f' && s == "0x1."+other+"p-1" {
				continue
			}
			if got, ok := real.Read(s); ok || math.Float64bits(got) != 0 {
				t.Errorf("Read(%q) = %v, %v, want 0, false", s, got, ok)
			}
		}
	}
}

// nearest is the number nearest to the decimal s, by exact fractions.
func nearest(t *testing.T, s string) float64 {
	r, ok := new(big.Rat).SetString(s)
	if !ok {
		t.Fatalf("%q is no fraction", s)
	}
	x, _ := r.Float64()
	if strings.HasPrefix(s, "-") && x == 0 {
		return negZero
	}
	return x
}

// TestReadShortTexts holds Read against the form, at each text of up to 6 of the bytes that matter.
func TestReadShortTexts(t *testing.T) {
	form := regexp.MustCompile(`^-?(0|[1-9][0-9]*)(\.[0-9]+)?$`)
	texts := []string{""}
	for range 6 {
		var longer []string
		for _, s := range texts {
			for _, c := range "0719.-" {
				longer = append(longer, s+string(c))
			}
		}
		for _, s := range longer {
			got, ok := real.Read(s)
			want := 0.0
			if form.MatchString(s) {
				want = nearest(t, s)
			}
			if ok != form.MatchString(s) || !isSame(got, want) {
				t.Fatalf("Read(%q) = %v, %v, want %v", s, got, ok, want)
			}
		}
		texts = longer
	}
}

func TestReadIsNearest(t *testing.T) {
	for i, x := range many(2000) {
		digits := strconv.FormatUint(math.Float64bits(x)%1_000_000_000_000_000, 10)
		point := 1 + i%len(digits)
		s := digits
		if point < len(digits) {
			s = digits[:point] + "." + digits[point:]
		}
		if i%3 == 0 {
			s = "0." + digits[:min(14, len(digits))]
		}
		if len(s) > 1 && s[0] == '0' && s[1] != '.' {
			continue
		}
		if i%2 == 0 {
			s = "-" + s
		}
		if got, ok := real.Read(s); !ok || !isSame(got, nearest(t, s)) {
			t.Errorf("Read(%q) = %v, %v, want %v", s, got, ok, nearest(t, s))
		}
	}
}

func TestSum(t *testing.T) {
	tiny := math.Nextafter(1, 0) - 1 // half of what lies between 1 and the next number
	for _, c := range []struct {
		l    []float64
		want float64
	}{
		{nil, 0}, {[]float64{}, 0}, {[]float64{0}, 0}, {[]float64{negZero}, negZero}, {[]float64{negZero, negZero}, negZero}, {[]float64{negZero, 0}, 0}, {[]float64{0, negZero}, 0},
		{[]float64{1.5, 2, -8}, -4.5}, {[]float64{1e300, 1, -1e300}, 0}, {[]float64{1e300, -1e300, 1}, 1}, {[]float64{0.1, 0.2, 0.3}, math.Nextafter(0.6, 1)}, {[]float64{0.3, 0.2, 0.1}, 0.6},
		{[]float64{1, -tiny}, 1}, {[]float64{1, -tiny, -tiny}, 1}, {[]float64{-tiny, -tiny, 1}, math.Nextafter(1, 2)}, {[]float64{math.Nextafter(1, 2), -tiny}, math.Nextafter(math.Nextafter(1, 2), 2)},
		{[]float64{1 << 53, 1}, 1 << 53}, {[]float64{1<<53 + 2, 1}, 1<<53 + 4},
		{[]float64{smallest, smallest}, 2 * smallest}, {[]float64{normal, -smallest}, below},
		{[]float64{math.MaxFloat64, math.MaxFloat64, -math.MaxFloat64}, inf}, {[]float64{inf, 1}, inf}, {[]float64{1, -inf}, -inf}, {[]float64{inf, -inf}, nan}, {[]float64{1, nan, 2}, nan},
	} {
		if got := real.Sum(c.l); !isSame(got, c.want) {
			t.Errorf("Sum(%v) = %v, want %v", c.l, got, c.want)
		}
	}
}

func TestSumLeavesItsList(t *testing.T) {
	room := []float64{0.5, 1, 2, negZero, 7, 8}
	real.Sum(room[1:4])
	if got := fmt.Sprint(room); got != "[0.5 1 2 -0 7 8]" {
		t.Errorf("Sum changed its list: %s", got)
	}
}

func TestShare(t *testing.T) {
	for _, c := range []struct {
		a, b int
		want float64
	}{
		{0, 0, nan}, {1, 0, inf}, {-1, 0, -inf}, {math.MinInt, 0, -inf}, {math.MaxInt, 0, inf}, {0, 5, 0}, {0, -5, negZero},
		{1, 2, 0.5}, {-1, 2, -0.5}, {1, -2, -0.5}, {-1, -2, 0.5}, {7, 7, 1}, {9, 2, 4.5}, {1, 3, 1.0 / 3}, {1, 10, 0.1},
		{1<<53 + 1, 1, 1 << 53}, {1<<53 + 3, 1, 1<<53 + 4}, {1<<53 + 1, 1 << 53, 1}, {math.MaxInt, 1, 1 << 63}, {math.MaxInt, math.MaxInt - 1, 1}, {math.MinInt, -1, 1 << 63}, {math.MinInt, 1, -1 << 63}, {1, math.MinInt, -1.0 / (1 << 63)},
	} {
		if got := real.Share(c.a, c.b); !isSame(got, c.want) {
			t.Errorf("Share(%d, %d) = %v, want %v", c.a, c.b, got, c.want)
		}
	}
}

func TestPlace(t *testing.T) {
	most := math.Nextafter(1, 0)
	for _, c := range []struct {
		x    float64
		n    int
		want int
	}{
		{0.5, 9, 4}, {0.5, 8, 4}, {0.5, 1, 0}, {0.5, 0, 0}, {0.25, 7, 1}, {0.999999, 3, 2}, {0.1, 10, 1}, {0.7, 10, 7}, {0.29, 100, 28}, {most, 10, 9}, {most, 1, 0},
		{0, 9, 0}, {negZero, 9, 0}, {-smallest, 9, 0}, {-0.5, 9, 0}, {-1, 9, 0}, {-inf, 9, 0}, {-math.MaxFloat64, math.MaxInt, 0},
		{1, 9, 9}, {math.Nextafter(1, 2), 9, 9}, {2, 9, 9}, {inf, 9, 9}, {1, 0, 0}, {1, math.MaxInt, math.MaxInt}, {1, 1<<53 + 1, 1<<53 + 1}, {inf, math.MaxInt, math.MaxInt},
		{smallest, 9, 0}, {smallest, math.MaxInt, 0}, {0.5, 1 << 62, 1 << 61}, {0.5, math.MaxInt, 1 << 62}, {most, math.MaxInt, math.MaxInt - 1023}, {0.5, 1<<54 + 2, 1 << 53}, {0.5, 1<<54 + 6, 1<<53 + 4},
	} {
		if got, ok := real.Place(c.x, c.n); !ok || got != c.want {
			t.Errorf("Place(%v, %d) = %d, %v, want %d", c.x, c.n, got, ok, c.want)
		}
	}
}

func TestPlaceRefuses(t *testing.T) {
	refused := func(x float64, n int) {
		if got, ok := real.Place(x, n); ok || got != 0 {
			t.Errorf("Place(%v, %d) = %d, %v, want 0, false", x, n, got, ok)
		}
	}
	for _, x := range nans() {
		refused(x, 9)
		refused(x, 0)
		refused(x, -1)
	}
	for _, x := range ordered() {
		refused(x, -1)
		refused(x, math.MinInt)
	}
}

func TestCompareIsAnOrder(t *testing.T) {
	l := append(append(ordered(), nans()...), many(20)...)
	for _, a := range l {
		for _, b := range l {
			ab := real.Compare(a, b)
			if ab != -real.Compare(b, a) {
				t.Errorf("Compare(%v, %v) and back do not agree", a, b)
			}
			if (ab == 0) != (real.Bits(a) == real.Bits(b)) {
				t.Errorf("Compare(%v, %v) = %d, their bits %x and %x", a, b, ab, real.Bits(a), real.Bits(b))
			}
			for _, c := range l {
				if ab <= 0 && real.Compare(b, c) <= 0 && real.Compare(a, c) > 0 {
					t.Fatalf("%v, %v, %v: not in order", a, b, c)
				}
			}
		}
	}
}

func TestReadOfShow(t *testing.T) {
	for _, x := range all() {
		s := real.Show(x)
		if got, ok := real.Read(s); !ok || real.Bits(got) != real.Bits(x) {
			t.Errorf("Read(Show(%v)) = %v, %v, by way of %q", x, got, ok, s)
		}
	}
}
