package impl

import (
	"math"
	"math/bits"
)

// unsigned has the widths in which the formats write a number whole.
type unsigned interface {
	uint8 | uint16 | uint32 | uint64
}

// bytesOf tells how many bytes n needs: none for 0.
func bytesOf[T unsigned](n T) int64 {
	return int64(bits.Len64(uint64(n))+7) / 8
}

func widthOf[T unsigned]() int64 {
	return bytesOf(^T(0))
}

func lowFirst[T unsigned](n T, k int64) string {
	b := make([]byte, k)
	for i := range k {
		b[i] = byte(n >> (8 * i))
	}
	return string(b)
}

func highFirst[T unsigned](n T, k int64) string {
	b := make([]byte, k)
	for i := range k {
		b[k-1-i] = byte(n >> (8 * i))
	}
	return string(b)
}

func readLow[T unsigned](s string, k int64) (T, bool) {
	if int64(len(s)) < k {
		return 0, false
	}
	var n T
	for i := range k {
		n |= T(s[i]) << (8 * i)
	}
	return n, true
}

func readHigh[T unsigned](s string, k int64) (T, bool) {
	if int64(len(s)) < k {
		return 0, false
	}
	var n T
	for i := range k {
		n |= T(s[k-1-i]) << (8 * i)
	}
	return n, true
}

// whole writes all bytes of n's width, the lowest first.
func whole[T unsigned](n T) string {
	return lowFirst(n, widthOf[T]())
}

func readWhole[T unsigned](s string) (T, bool) {
	return readLow[T](s, widthOf[T]())
}

func isWidth(k int64) bool {
	return 1 <= k && k <= 8
}

func PutLe(n uint64, k int64) string {
	if !isWidth(k) || bytesOf(n) > k {
		return ""
	}
	return lowFirst(n, k)
}

func GetLe(s string, k int64) (uint64, bool) {
	if !isWidth(k) {
		return 0, false
	}
	return readLow[uint64](s, k)
}

func PutBe(n uint64, k int64) string {
	if !isWidth(k) || bytesOf(n) > k {
		return ""
	}
	return highFirst(n, k)
}

func GetBe(s string, k int64) (uint64, bool) {
	if !isWidth(k) {
		return 0, false
	}
	return readHigh[uint64](s, k)
}

func varint[T unsigned](n T) string {
	var b []byte
	for n > 127 {
		b = append(b, byte(n)|128)
		n >>= 7
	}
	return string(append(b, byte(n)))
}

func readVarint[T unsigned](s string) (T, int64, bool) {
	var n T
	for i := range int64(len(s)) {
		part := T(s[i] & 127)
		moved := part << (7 * i)
		if moved>>(7*i) != part {
			// Bits that T has no room for were lost.
			return 0, 0, false
		}
		n |= moved
		if s[i] > 127 {
			continue
		}
		if i > 0 && part == 0 {
			// One byte less would have done.
			return 0, 0, false
		}
		return n, i + 1, true
	}
	return 0, 0, false
}

func PutVarint(n uint64) string {
	return varint(n)
}

func GetVarint(s string) (uint64, int64, bool) {
	return readVarint[uint64](s)
}

func PutSize(n uint64) string {
	switch {
	case n < 253:
		return whole(uint8(n))
	case n <= math.MaxUint16:
		return whole(uint8(253)) + whole(uint16(n))
	case n <= math.MaxUint32:
		return whole(uint8(254)) + whole(uint32(n))
	}
	return whole(uint8(255)) + whole(n)
}

func GetSize(s string) (uint64, int64, bool) {
	if s == "" {
		return 0, 0, false
	}
	switch s[0] {
	case 253:
		return sizeBehind[uint16](s, 253)
	case 254:
		return sizeBehind[uint32](s, math.MaxUint16+1)
	case 255:
		return sizeBehind[uint64](s, math.MaxUint32+1)
	}
	return uint64(s[0]), 1, true
}

// sizeBehind reads the number behind the first byte of s; what is below least
// has a shorter form.
func sizeBehind[T unsigned](s string, least T) (uint64, int64, bool) {
	n, ok := readWhole[T](s[1:])
	if !ok || n < least {
		return 0, 0, false
	}
	return uint64(n), 1 + widthOf[T](), true
}

func PutCompact(n uint64) string {
	switch {
	case n < 1<<6:
		return whole(uint8(n) << 2)
	case n < 1<<14:
		return whole(uint16(n)<<2 | 1)
	case n < 1<<30:
		return whole(uint32(n)<<2 | 2)
	}
	k := bytesOf(n)
	return whole(uint8(4*(k-4)+3)) + lowFirst(n, k)
}

func GetCompact(s string) (uint64, int64, bool) {
	if s == "" {
		return 0, 0, false
	}
	switch s[0] & 3 {
	case 0:
		return compactWhole[uint8](s, 0)
	case 1:
		return compactWhole[uint16](s, 1<<6)
	case 2:
		return compactWhole[uint32](s, 1<<14)
	}
	return compactLong(s)
}

// compactWhole reads a number that shares its bytes with the two bits of its
// form; what is below least has a shorter one.
func compactWhole[T unsigned](s string, least T) (uint64, int64, bool) {
	n, ok := readWhole[T](s)
	if !ok || n>>2 < least {
		return 0, 0, false
	}
	return uint64(n >> 2), widthOf[T](), true
}

func compactLong(s string) (uint64, int64, bool) {
	k := int64(s[0]>>2) + 4
	if !isWidth(k) {
		return 0, 0, false
	}
	n, ok := readLow[uint64](s[1:], k)
	if !ok || n < 1<<30 || bytesOf(n) != k {
		return 0, 0, false
	}
	return n, 1 + k, true
}

const (
	headString = 128
	headList   = 192
	// headShort is the first length that has bytes of its own.
	headShort = 56
)

func headBase(list bool) uint8 {
	if list {
		return headList
	}
	return headString
}

func PutHead(list bool, n int64) string {
	if n < 0 || n > math.MaxUint16 {
		return ""
	}
	base := headBase(list)
	if n < headShort {
		return whole(base + uint8(n))
	}
	k := bytesOf(uint16(n))
	return whole(base+headShort-1+uint8(k)) + highFirst(uint16(n), k)
}

func GetHead(s string) (bool, int64, int64, bool) {
	if s == "" || s[0] < headString {
		return false, 0, 0, false
	}
	list := s[0] >= headList
	short := int64(s[0] - headBase(list))
	if short < headShort {
		return list, short, 1, true
	}
	k := short - headShort + 1
	if k > widthOf[uint16]() {
		return false, 0, 0, false
	}
	n, ok := readHigh[uint16](s[1:], k)
	if !ok || n < headShort || bytesOf(n) != k {
		return false, 0, 0, false
	}
	return list, int64(n), 1 + k, true
}
