package tests

import (
	"slices"
	"strings"
	"testing"

	"loop.example/g00774/impl"
)

// lowFirst writes n in k bytes, the lowest first.
func lowFirst(n uint64, k int64) []byte {
	var b []byte
	for range k {
		b = append(b, byte(n%256))
		n /= 256
	}
	return b
}

// scaleCount writes a count, of which none here is above 200.
func scaleCount(n int) []byte {
	if n < 64 {
		return []byte{byte(4 * n)}
	}
	return lowFirst(uint64(4*n+1), 2)
}

// countedOf is the tests' own reading of chapters 6 and 8, which differ in how
// a count is written.
func countedOf(count func(n int) []byte) func(sh shape, v []impl.Item) ([]byte, []impl.Item) {
	var of func(sh shape, v []impl.Item) ([]byte, []impl.Item)
	of = func(sh shape, v []impl.Item) ([]byte, []impl.Item) {
		it, rest := v[0], v[1:]
		var b []byte
		switch it.Kind {
		case impl.TyUint:
			b = lowFirst(it.N, sh.typ.N/8)
		case impl.TyBool, impl.TyOption, impl.TyUnion:
			b = []byte{byte(it.N)}
		case impl.TyBytes:
			b = count(len(it.S))
		case impl.TyList:
			b = count(int(it.N))
		}
		b = append(b, it.S...)
		for _, part := range sh.under(it.N) {
			var more []byte
			more, rest = of(part, rest)
			b = append(b, more...)
		}
		return b, rest
	}
	return of
}

func TestScaleOfEachKind(t *testing.T) {
	w := wireOf("SCALE")
	for _, r := range []struct{ schema, value, b string }{
		{"u8", "0", "\x00"}, {"u8", "255", "\xff"}, {"u16", "0", "\x00\x00"}, {"u16", "255", "\xff\x00"}, {"u16", "256", "\x00\x01"}, {"u16", "65535", "\xff\xff"},
		{"u32", "1", "\x01\x00\x00\x00"}, {"u32", "16909060", "\x04\x03\x02\x01"}, {"u32", "4294967295", "\xff\xff\xff\xff"},
		{"u64", "0", "\x00\x00\x00\x00\x00\x00\x00\x00"}, {"u64", "72623859790382856", "\x08\x07\x06\x05\x04\x03\x02\x01"}, {"u64", "18446744073709551615", "\xff\xff\xff\xff\xff\xff\xff\xff"},
		{"bool", "f", "\x00"}, {"bool", "t", "\x01"},
		{"bytes0", "b:", "\x00"}, {"bytes3", "b:", "\x00"}, {"bytes3", "b:00", "\x04\x00"}, {"bytes3", "b:616263", "\x0cabc"},
		{"fixed1", "x:00", "\x00"}, {"fixed3", "x:616263", "abc"},
		{"list3 u16", "l0", "\x00"}, {"list3 u16", "l1 7", "\x04\x07\x00"}, {"list3 u16", "l3 7 8 9", "\x0c\x07\x00\x08\x00\x09\x00"},
		{"list3 bytes3", "l0", "\x00"}, {"list3 bytes3", "l1 b:", "\x04\x00"}, {"list3 bytes3", "l3 b: b:61 b:6262", "\x0c\x00\x04a\x08bb"},
		{"list1 list2 bool", "l1 l2 t f", "\x04\x08\x01\x00"},
		{"vector1 u8", "v1 7", "\x07"}, {"vector3 u8", "v3 7 8 9", "\x07\x08\x09"}, {"vector2 bytes2", "v2 b: b:61", "\x00\x04a"}, {"vector2 list2 u8", "v2 l1 7 l0", "\x04\x07\x00"},
		{"struct1 u8", "s1 7", "\x07"}, {"struct2 u8 bool", "s2 7 t", "\x07\x01"}, {"struct4 bytes2 u8 list2 u8 u16", "s4 b:61 7 l1 8 9", "\x04a\x07\x04\x08\x09\x00"},
		{"option u8", "none", "\x00"}, {"option u8", "some 0", "\x01\x00"}, {"option option u8", "some none", "\x01\x00"}, {"option option u8", "some some 7", "\x01\x01\x07"}, {"option bool", "some f", "\x01\x00"}, {"option bool", "some t", "\x01\x01"},
		{"union3 u8 bool bytes3", "c0 7", "\x00\x07"}, {"union3 u8 bool bytes3", "c1 t", "\x01\x01"}, {"union3 u8 bool bytes3", "c2 b:61", "\x02\x04a"},
		{"union1 u8", "c0 7", "\x00\x07"}, {"union4 u8 u8 u8 option u8", "c3 none", "\x03\x00"},
	} {
		s := schemaOf(t, r.schema)
		w.check(t, s, valueOf(t, r.value), r.b)
		w.checkEnds(t, s, r.b)
	}
}

func TestScaleOfMostParts(t *testing.T) {
	w := wireOf("SCALE")
	for _, r := range []struct {
		n    int
		head string
	}{{0, "\x00"}, {1, "\x04"}, {62, "\xf8"}, {63, "\xfc"}, {64, "\x01\x01"}, {65, "\x05\x01"}, {199, "\x1d\x03"}, {200, "\x21\x03"}} {
		text := strings.Repeat("z", r.n)
		it := impl.Item{Kind: impl.TyBytes, S: text}
		w.check(t, schemaOf(t, "bytes200"), []impl.Item{it}, r.head+text)
		w.checkEnds(t, schemaOf(t, "bytes200"), r.head+text)
		w.check(t, schemaOf(t, "option bytes200"), []impl.Item{{Kind: impl.TyOption, N: 1}, it}, "\x01"+r.head+text)
	}
	for n := range 21 {
		b := string([]byte{byte(4 * n)}) + strings.Repeat("\x05", n)
		v := append([]impl.Item{{Kind: impl.TyList, N: uint64(n)}}, slices.Repeat([]impl.Item{{Kind: impl.TyUint, N: 5}}, n)...)
		w.check(t, schemaOf(t, "list20 u8"), v, b)
		w.checkEnds(t, schemaOf(t, "list20 u8"), b)
	}
	w.checkNone(t, schemaOf(t, "list20 u8"), "\x54"+strings.Repeat("\x05", 21))
	w.checkNone(t, schemaOf(t, "list20 bytes0"), "\x54"+strings.Repeat("\x00", 21))
	w.checkNone(t, schemaOf(t, "bytes200"), "\x25\x03"+strings.Repeat("z", 201))
	w.checkNone(t, schemaOf(t, "bytes63"), "\x01\x01"+strings.Repeat("z", 64))
}

func TestScaleOfFewBytes(t *testing.T) {
	t.Parallel()
	few := fewBytes()
	for _, r := range []struct {
		schema string
		counts [4]int
	}{
		{"u8", [4]int{0, 256, 0, 0}},
		{"u16", [4]int{0, 0, 65536, 0}},
		{"u32", [4]int{}},
		{"bool", [4]int{0, 2, 0, 0}},
		{"bytes0", [4]int{0, 1, 0, 0}},
		{"bytes1", [4]int{0, 1, 256, 0}},
		{"bytes200", [4]int{0, 1, 256, 256 * 4}},
		{"fixed1", [4]int{0, 256, 0, 0}},
		{"fixed2", [4]int{0, 0, 65536, 0}},
		{"fixed3", [4]int{0, 0, 0, 10 * 256 * 4}},
		{"list20 bool", [4]int{0, 1, 2, 4}},
		{"list1 u8", [4]int{0, 1, 256, 0}},
		{"list2 bytes1", [4]int{0, 1, 1, 1 + 4}},
		{"vector2 bool", [4]int{0, 0, 4, 0}},
		{"vector3 bool", [4]int{0, 0, 0, 8}},
		{"struct1 u8", [4]int{0, 256, 0, 0}},
		{"struct2 bool bytes1", [4]int{0, 0, 2, 2 * 4}},
		{"option bool", [4]int{0, 1, 2, 0}},
		{"option option bool", [4]int{0, 1, 1, 2}},
		{"option bytes1", [4]int{0, 1, 1, 4}},
		{"union1 bool", [4]int{0, 0, 2, 0}},
		{"union3 bool u8 bytes1", [4]int{0, 0, 2 + 256 + 1, 4}},
	} {
		wireOf("SCALE").checkCounts(t, few, r.schema, r.counts)
	}
}

func TestWrongScale(t *testing.T) {
	long := strings.Repeat("z", 63)
	wireOf("SCALE").checkWrong(t, []wrong{
		{"u8", []string{"", "\x00\x00"}},
		{"u16", []string{"", "\x01", "\x01\x00\x00"}},
		{"u32", []string{"", "\x01\x00\x00", "\x01\x00\x00\x00\x00"}},
		{"u64", []string{"", "\x01\x00\x00\x00", "\x01\x00\x00\x00\x00\x00\x00", "\x01\x00\x00\x00\x00\x00\x00\x00\x00"}},
		{"bool", []string{"", "\x02", "\x03", "\x80", "\xff", "\x01\x00", "\x00\x01"}},
		{"bytes0", []string{"", "\x04", "\x04a", "\x00a", "\x01\x00", "\x02\x00\x00\x00"}},
		{"bytes2", []string{"", "\x04", "\x08a", "\x0cabc", "\x08abc", "\x01", "\x01\x00", "\x05\x00a", "\x09\x00ab", "\x0a\x00\x00\x00ab", "\x0b\x02\x00\x00\x00ab", "\x03\x02\x00\x00\x00ab", "\x03\x00\x00\x00\x40ab", "\x13\xff\xff\xff\xff\xff\xff\xff\xffab", "\x13\x02\x00\x00\x00\x00\x00\x00\x80ab", "\x07\x02\x00\x00\x00\x01ab"}},
		{"bytes200", []string{"\xfd\x00" + long, "\xfe\x00\x00\x00" + long, "\x02\x01\x00\x00" + long + "z", "\xfc" + long[1:], "\xfc" + long + "z", "\x01\x01" + long, "\x01\x01" + long + "zz", "\x01\x00"}},
		{"fixed2", []string{"", "a", "abc", "\x08ab"}},
		{"list2 u8", []string{"", "\x04", "\x08\x01", "\x04\x01\x02", "\x08\x01\x02\x03", "\x0c\x01\x02\x03", "\x05\x00\x01", "\x09\x00\x01\x02", "\x0a\x00\x00\x00\x01\x02", "\x03\x02\x00\x00\x00\x01\x02", "\x02", "\x03", "\x13\xff\xff\xff\xff\xff\xff\xff\xff\x01\x02", "\x13\x02\x00\x00\x00\x00\x00\x00\x80\x01\x02"}},
		{"list2 bool", []string{"\x04\x02", "\x08\x01\x02", "\x08\x02\x01"}},
		{"list2 bytes1", []string{"\x04", "\x08\x00", "\x04\x08ab", "\x08\x04\x00", "\x08\x04a", "\x08\x04a\x04"}},
		{"list2 list2 u8", []string{"\x04", "\x04\x04", "\x04\x0c\x01\x02\x03", "\x0c\x00\x00\x00", "\x04\x05\x00\x01"}},
		{"vector2 u8", []string{"", "\x01", "\x01\x02\x03", "\x08\x01\x02"}},
		{"vector2 list2 bool", []string{"", "\x00", "\x00\x00\x00", "\x04\x01", "\x04\x02\x00"}},
		{"struct2 u8 bool", []string{"", "\x07", "\x07\x02", "\x07\x01\x00", "\x08\x07\x01"}},
		{"struct2 bytes2 u8", []string{"", "\x00", "\x04a", "\x08ab", "\x0cabc\x07", "\x00\x07\x07"}},
		{"option u8", []string{"", "\x01", "\x02", "\x02\x05", "\x03\x05", "\xff\x05", "\x00\x00", "\x00\x05", "\x01\x05\x05"}},
		{"option bool", []string{"\x01\x02", "\x02\x01", "\x00\x01"}},
		{"option option u8", []string{"\x01", "\x01\x02\x05", "\x02\x01\x05", "\x01\x00\x05"}},
		{"union3 u8 bool bytes2", []string{"", "\x00", "\x01", "\x02", "\x03", "\x03\x01", "\x04\x01", "\x80\x01", "\xff\x01", "\x01\x02", "\x02\x0cabc", "\x00\x07\x07"}},
		{"union1 u8", []string{"", "\x00", "\x01", "\x01\x07", "\x02\x07"}},
		{"union4 u8 u8 u8 u8", []string{"\x04\x07", "\x05\x07", "\x03"}},
	})
}
