package tests

import (
	"encoding/binary"
	"fmt"
	"math"
	"testing"

	"loop.example/g00774/impl"
)

// A way is one of the ways to write a number, told alike for all of them.
type way struct {
	name string
	put  func(uint64) string
	get  func(string) (uint64, int64, bool)
}

func leWay(k int64) way {
	return way{
		fmt.Sprintf("le%d", k),
		func(n uint64) string { return impl.PutLe(n, k) },
		func(s string) (uint64, int64, bool) {
			n, ok := impl.GetLe(s, k)
			return n, lengthIf(ok, k), ok
		},
	}
}

func beWay(k int64) way {
	return way{
		fmt.Sprintf("be%d", k),
		func(n uint64) string { return impl.PutBe(n, k) },
		func(s string) (uint64, int64, bool) {
			n, ok := impl.GetBe(s, k)
			return n, lengthIf(ok, k), ok
		},
	}
}

func lengthIf(ok bool, k int64) int64 {
	if ok {
		return k
	}
	return 0
}

// headWay tells whether a head is of a list by the number's highest bit, so
// that no answer of GetHead goes unseen.
func headWay() way {
	const list = 1 << 63
	return way{
		"head",
		func(n uint64) string { return impl.PutHead(n&list != 0, int64(n&^list)) },
		func(s string) (uint64, int64, bool) {
			l, n, k, ok := impl.GetHead(s)
			u := uint64(n)
			if l {
				u |= list
			}
			return u, k, ok
		},
	}
}

func allWays() []way {
	ways := []way{
		{"varint", impl.PutVarint, impl.GetVarint},
		{"size", impl.PutSize, impl.GetSize},
		{"compact", impl.PutCompact, impl.GetCompact},
		headWay(),
	}
	for k := int64(1); k <= 8; k++ {
		ways = append(ways, leWay(k), beWay(k))
	}
	return ways
}

// someNumbers has all small numbers, and those around each power of two.
func someNumbers() []uint64 {
	var list []uint64
	for n := uint64(0); n < 66000; n++ {
		list = append(list, n, n|1<<63)
	}
	for j := 16; j < 64; j++ {
		p := uint64(1) << j
		list = append(list, p-2, p-1, p, p+1, p|0xa5, p+p/3, p+p/2)
	}
	return append(list, math.MaxUint64-1, math.MaxUint64)
}

var tails = []string{"", "\x00", "\x01", "\x7f", "\x80", "\xff", "\xff\xff\xff\xff\xff\xff\xff\xff\xff\xff", "z and more"}

func TestNumbersComeBack(t *testing.T) {
	for _, w := range allWays() {
		for _, n := range someNumbers() {
			s := w.put(n)
			if s == "" {
				continue
			}
			for _, tail := range tails {
				m, k, ok := w.get(s + tail)
				if !ok || m != n || k != int64(len(s)) {
					t.Fatalf("%s: %d is %q; with %q behind it %d, %d, %v is read", w.name, n, s, tail, m, k, ok)
				}
			}
		}
	}
}

func TestNumbersThatEndTooEarly(t *testing.T) {
	for _, w := range allWays() {
		for _, n := range someNumbers() {
			s := w.put(n)
			for i := range len(s) {
				if m, k, ok := w.get(s[:i]); ok || m != 0 || k != 0 {
					t.Fatalf("%s: %q of %q is read as %d, %d, %v", w.name, s[:i], s, m, k, ok)
				}
			}
		}
	}
}

// checkWrittenAgain asks the half of the promise that begins with bytes.
func checkWrittenAgain(t *testing.T, w way, s string) {
	t.Helper()
	n, k, ok := w.get(s)
	if !ok && (n != 0 || k != 0) {
		t.Fatalf("%s: %q is refused with %d, %d", w.name, s, n, k)
	}
	if ok && (k < 1 || k > int64(len(s)) || w.put(n) != s[:k]) {
		t.Fatalf("%s: %q is read as %d, %d, which is written as %q", w.name, s, n, k, w.put(n))
	}
}

func TestNumbersReadAreWrittenAgain(t *testing.T) {
	edges := []byte{0, 1, 2, 3, 7, 0x0b, 0x13, 0x17, 0x37, 0x38, 0x3f, 0x40, 0x7f, 0x80, 0xb7, 0xb8, 0xb9, 0xba, 0xbf, 0xc0, 0xf7, 0xf8, 0xf9, 0xfa, 0xfc, 0xfd, 0xfe, 0xff}
	ends := []byte{0, 1, 2, 0x3f, 0x40, 0x7f, 0x80, 0xff}
	for _, w := range allWays() {
		checkWrittenAgain(t, w, "")
		for i := range 65536 {
			checkWrittenAgain(t, w, string([]byte{byte(i >> 8)}))
			checkWrittenAgain(t, w, string([]byte{byte(i >> 8), byte(i)}))
			checkWrittenAgain(t, w, string([]byte{byte(i >> 8), byte(i), 0x38}))
		}
		for _, a := range edges {
			for _, fill := range ends {
				for _, last := range ends {
					for size := range 12 {
						b := []byte{a}
						for range size {
							b = append(b, fill)
						}
						checkWrittenAgain(t, w, string(append(b, last)))
						checkWrittenAgain(t, w, string(append(b, last, 0)))
					}
				}
			}
		}
	}
}

func TestLeAndBeAtTheirEdges(t *testing.T) {
	for k := int64(1); k <= 8; k++ {
		most := uint64(math.MaxUint64) >> (64 - 8*k)
		for _, n := range []uint64{0, 1, most / 2, most/2 + 1, most - 1, most} {
			var b [8]byte
			binary.LittleEndian.PutUint64(b[:], n)
			if s := impl.PutLe(n, k); s != string(b[:k]) {
				t.Errorf("PutLe(%d, %d) is %q", n, k, s)
			}
			binary.BigEndian.PutUint64(b[:], n)
			if s := impl.PutBe(n, k); s != string(b[8-k:]) {
				t.Errorf("PutBe(%d, %d) is %q", n, k, s)
			}
		}
		if k == 8 {
			continue
		}
		for _, n := range []uint64{most + 1, most + 2, math.MaxUint64} {
			if impl.PutLe(n, k) != "" || impl.PutBe(n, k) != "" {
				t.Errorf("%d is written in %d bytes", n, k)
			}
		}
	}
}

func TestLeAndBeOfNoWidth(t *testing.T) {
	long := "\x01\x00\x00\x00\x00\x00\x00\x00\x00\x00\x00\x00"
	for _, k := range []int64{math.MinInt64, -8, -1, 0, 9, 10, 1 << 32, math.MaxInt64} {
		for _, n := range []uint64{0, 1, math.MaxUint64} {
			if impl.PutLe(n, k) != "" || impl.PutBe(n, k) != "" {
				t.Errorf("%d is written in %d bytes", n, k)
			}
		}
		for _, s := range []string{"", "\x00", long} {
			if n, ok := impl.GetLe(s, k); ok || n != 0 {
				t.Errorf("GetLe(%q, %d) is %d, %v", s, k, n, ok)
			}
			if n, ok := impl.GetBe(s, k); ok || n != 0 {
				t.Errorf("GetBe(%q, %d) is %d, %v", s, k, n, ok)
			}
		}
	}
}

// A written is a number and its bytes.
type written struct {
	n uint64
	s string
}

func checkWritten(t *testing.T, w way, list []written) {
	t.Helper()
	for _, r := range list {
		if s := w.put(r.n); s != r.s {
			t.Errorf("%s: %d is written as %q, not %q", w.name, r.n, s, r.s)
		}
		if n, k, ok := w.get(r.s + "\x80"); !ok || n != r.n || k != int64(len(r.s)) {
			t.Errorf("%s: %q is read as %d, %d, %v", w.name, r.s, n, k, ok)
		}
	}
}

func checkRefused(t *testing.T, w way, list []string) {
	t.Helper()
	for _, s := range list {
		for _, tail := range []string{"", "\x00", "\x01", "\xff\xff\xff\xff\xff\xff\xff\xff"} {
			if n, k, ok := w.get(s + tail); ok || n != 0 || k != 0 {
				t.Errorf("%s: %q is read as %d, %d, %v", w.name, s+tail, n, k, ok)
			}
		}
	}
}

func TestVarintAtItsEdges(t *testing.T) {
	w := way{"varint", impl.PutVarint, impl.GetVarint}
	checkWritten(t, w, []written{
		{0, "\x00"}, {1, "\x01"}, {127, "\x7f"}, {128, "\x80\x01"}, {300, "\xac\x02"},
		{1<<14 - 1, "\xff\x7f"}, {1 << 14, "\x80\x80\x01"},
		{1<<63 - 1, "\xff\xff\xff\xff\xff\xff\xff\xff\x7f"},
		{1 << 63, "\x80\x80\x80\x80\x80\x80\x80\x80\x80\x01"},
		{math.MaxUint64, "\xff\xff\xff\xff\xff\xff\xff\xff\xff\x01"},
	})
	for j := 0; j < 64; j += 7 {
		for _, n := range []uint64{1<<j - 1, 1 << j} {
			if s := impl.PutVarint(n); s != string(binary.AppendUvarint(nil, n)) {
				t.Errorf("%d is written as %q", n, s)
			}
		}
	}
	checkRefused(t, w, []string{
		"\x80\x00", "\xff\x00", "\x80\x80\x00", "\xac\x82\x00",
		"\xff\xff\xff\xff\xff\xff\xff\xff\xff\x00",
		"\xff\xff\xff\xff\xff\xff\xff\xff\xff\x02",
		"\x80\x80\x80\x80\x80\x80\x80\x80\x80\x02",
		"\x80\x80\x80\x80\x80\x80\x80\x80\x80\x7f",
		"\x80\x80\x80\x80\x80\x80\x80\x80\x80\x81\x00",
		"\x80\x80\x80\x80\x80\x80\x80\x80\x80\x80\x01",
		"\x80\x80\x80\x80\x80\x80\x80\x80\x80\x80\x00",
	})
}

func TestSizeAtItsEdges(t *testing.T) {
	w := way{"size", impl.PutSize, impl.GetSize}
	checkWritten(t, w, []written{
		{0, "\x00"}, {1, "\x01"}, {252, "\xfc"},
		{253, "\xfd\xfd\x00"}, {254, "\xfd\xfe\x00"}, {255, "\xfd\xff\x00"}, {256, "\xfd\x00\x01"}, {65535, "\xfd\xff\xff"},
		{65536, "\xfe\x00\x00\x01\x00"}, {1<<32 - 1, "\xfe\xff\xff\xff\xff"},
		{1 << 32, "\xff\x00\x00\x00\x00\x01\x00\x00\x00"}, {math.MaxUint64, "\xff\xff\xff\xff\xff\xff\xff\xff\xff"},
	})
	checkRefused(t, w, []string{
		"\xfd\x00\x00", "\xfd\xfc\x00", "\xfe\x00\x00\x00\x00", "\xfe\xff\xff\x00\x00", "\xfe\xfd\x00\x00\x00",
		"\xff\x00\x00\x00\x00\x00\x00\x00\x00", "\xff\xff\xff\xff\xff\x00\x00\x00\x00", "\xff\x00\x00\x01\x00\x00\x00\x00\x00",
	})
}

func TestCompactAtItsEdges(t *testing.T) {
	w := way{"compact", impl.PutCompact, impl.GetCompact}
	checkWritten(t, w, []written{
		{0, "\x00"}, {1, "\x04"}, {63, "\xfc"},
		{64, "\x01\x01"}, {1<<14 - 1, "\xfd\xff"},
		{1 << 14, "\x02\x00\x01\x00"}, {1<<30 - 1, "\xfe\xff\xff\xff"},
		{1 << 30, "\x03\x00\x00\x00\x40"}, {1<<32 - 1, "\x03\xff\xff\xff\xff"},
		{1 << 32, "\x07\x00\x00\x00\x00\x01"}, {1<<40 - 1, "\x07\xff\xff\xff\xff\xff"},
		{1 << 40, "\x0b\x00\x00\x00\x00\x00\x01"}, {1<<48 - 1, "\x0b\xff\xff\xff\xff\xff\xff"},
		{1 << 48, "\x0f\x00\x00\x00\x00\x00\x00\x01"}, {1<<56 - 1, "\x0f\xff\xff\xff\xff\xff\xff\xff"},
		{1 << 56, "\x13\x00\x00\x00\x00\x00\x00\x00\x01"}, {math.MaxUint64, "\x13\xff\xff\xff\xff\xff\xff\xff\xff"},
	})
	checkRefused(t, w, []string{
		"\x01\x00", "\xfd\x00", "\x02\x00\x00\x00", "\xfe\xff\x00\x00",
		"\x03\x00\x00\x00\x00", "\x03\xff\xff\xff\x3f",
		"\x07\x00\x00\x00\x40\x00", "\x07\xff\xff\xff\xff\x00", "\x0b\xff\xff\xff\xff\xff\x00",
		"\x0f\xff\xff\xff\xff\xff\xff\x00", "\x13\xff\xff\xff\xff\xff\xff\xff\x00",
		"\x17\x00\x00\x00\x00\x00\x00\x00\x00\x01", "\xff\xff\xff\xff\xff\xff\xff\xff\xff\xff",
	})
}

func TestHeadAtItsEdges(t *testing.T) {
	for _, r := range []struct {
		n    int64
		text string
		list string
	}{
		{0, "\x80", "\xc0"}, {1, "\x81", "\xc1"}, {55, "\xb7", "\xf7"},
		{56, "\xb8\x38", "\xf8\x38"}, {255, "\xb8\xff", "\xf8\xff"},
		{256, "\xb9\x01\x00", "\xf9\x01\x00"}, {1024, "\xb9\x04\x00", "\xf9\x04\x00"}, {65535, "\xb9\xff\xff", "\xf9\xff\xff"},
		{-1, "", ""}, {-56, "", ""}, {math.MinInt64, "", ""},
		{65536, "", ""}, {65536 + 56, "", ""}, {1 << 32, "", ""}, {math.MaxInt64, "", ""},
	} {
		if s := impl.PutHead(false, r.n); s != r.text {
			t.Errorf("the head of a string of %d is %q", r.n, s)
		}
		if s := impl.PutHead(true, r.n); s != r.list {
			t.Errorf("the head of a list of %d is %q", r.n, s)
		}
		if r.text == "" {
			continue
		}
		if l, n, k, ok := impl.GetHead(r.text + "z"); l || n != r.n || k != int64(len(r.text)) || !ok {
			t.Errorf("%q is read as %v, %d, %d, %v", r.text, l, n, k, ok)
		}
		if l, n, k, ok := impl.GetHead(r.list + "z"); !l || n != r.n || k != int64(len(r.list)) || !ok {
			t.Errorf("%q is read as %v, %d, %d, %v", r.list, l, n, k, ok)
		}
	}
	checkRefused(t, headWay(), []string{
		"\x00", "\x7f", "\xb8\x00", "\xb8\x37", "\xf8\x00", "\xf8\x37",
		"\xb9\x00\x00", "\xb9\x00\x38", "\xb9\x00\xff", "\xf9\x00\x38", "\xf9\x00\xff",
		"\xba\x01\x00\x00", "\xba\x00\x01\x00", "\xbb\x01\x00\x00\x00", "\xbf\x01\x00\x00\x00\x00\x00\x00\x00",
		"\xfa\x01\x00\x00", "\xfa\x00\x01\x00", "\xff\x01\x00\x00\x00\x00\x00\x00\x00",
	})
}
