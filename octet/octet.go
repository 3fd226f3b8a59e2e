// Package octet lays numbers in bytes, the highest byte first, and sums bytes: see DOC.md, chapter 1.
package octet

const (
	maxWidth   = 8
	maxNumber  = 1 << 62
	polynomial = 0xEDB88320
)

// Get tells the number that stands in the n bytes of b from at on; false if there is none, or if it is past 2^62.
func Get(b []byte, at, n int) (int, bool) {
	if !inside(b, at, n) {
		return 0, false
	}
	next := reader(b[at : at+n])
	// Eight bytes may tell more than an int holds: unsigned, such a number is seen to be too great, not negative.
	var x uint64
	for range n {
		x = x<<8 | uint64(next())
	}
	if x > maxNumber {
		return 0, false
	}
	return int(x), true
}

// Put answers bytes as b's, in memory of their own, in which the n from at on tell x; false if they can't.
func Put(b []byte, at, n, x int) ([]byte, bool) {
	if !inside(b, at, n) || !fits(n, x) {
		return nil, false
	}
	out := make([]byte, len(b))
	copy(out, b)
	for i := at + n - 1; i >= at; i-- {
		out[i] = byte(x)
		x >>= 8
	}
	return out, true
}

// Crc sums the bytes of b, so that a bit that is turned shows.
func Crc(b []byte) uint32 {
	sum := ^uint32(0)
	for _, c := range b {
		sum ^= uint32(c)
		for range 8 {
			sum = shift(sum)
		}
	}
	return ^sum
}

// shift moves the register on by one bit.
func shift(sum uint32) uint32 {
	if sum&1 == 1 {
		return sum>>1 ^ polynomial
	}
	return sum >> 1
}

// inside takes n from len(b) and adds it to nothing: at may be so great that a sum would wrap round.
func inside(b []byte, at, n int) bool {
	return 1 <= n && n <= maxWidth && 0 <= at && at <= len(b)-n
}

// fits takes an n that lies inside; at 8 bytes all bits are shifted out, so that 2^62 alone is the bound.
func fits(n, x int) bool {
	return 0 <= x && x <= maxNumber && x>>(8*n) == 0
}

// reader hands out the bytes of rest one by one; it moves its own view of them and writes none.
func reader(rest []byte) func() byte {
	return func() byte {
		first := rest[0]
		rest = rest[1:]
		return first
	}
}
