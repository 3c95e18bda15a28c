package tests

import (
	"slices"
	"strings"
	"testing"

	"loop.example/g00774/impl"
)

// rlpHead writes what stands ahead of n bytes, short and long being the two
// first bytes of its kind.
func rlpHead(short, long byte, n int) []byte {
	switch {
	case n < 56:
		return []byte{short + byte(n)}
	case n < 256:
		return []byte{long + 1, byte(n)}
	}
	return []byte{long + 2, byte(n >> 8), byte(n)}
}

func rlpOfString(s []byte) []byte {
	if len(s) == 1 && s[0] < 128 {
		return s
	}
	return append(rlpHead(128, 183, len(s)), s...)
}

func rlpOfNumber(n uint64) []byte {
	var b []byte
	for ; n > 0; n /= 256 {
		b = append(b, byte(n%256))
	}
	slices.Reverse(b)
	return rlpOfString(b)
}

// rlpOf is the tests' own reading of chapter 4: the bytes of the value of sh
// with which v begins, and what of v is left.
func rlpOf(sh shape, v []impl.Item) ([]byte, []impl.Item) {
	it, rest := v[0], v[1:]
	switch it.Kind {
	case impl.TyUint, impl.TyBool:
		return rlpOfNumber(it.N), rest
	case impl.TyBytes, impl.TyFixed:
		return rlpOfString([]byte(it.S)), rest
	}
	var b []byte
	if it.Kind == impl.TyUnion {
		b = rlpOfNumber(it.N)
	}
	for _, part := range sh.under(it.N) {
		var more []byte
		more, rest = rlpOf(part, rest)
		b = append(b, more...)
	}
	return append(rlpHead(192, 247, len(b)), b...), rest
}

// fewRlp has all bytes up to two, those of three with a head of two bytes,
// and some others of three, none of which is RLP of anything.
func fewRlp() []string {
	list := []string{""}
	for n := range 256 {
		list = append(list, string([]byte{byte(n)}))
	}
	for n := range 65536 {
		high, low := byte(n>>8), byte(n)
		list = append(list, string([]byte{high, low}), string([]byte{0x82, high, low}), string([]byte{0xc2, high, low}))
		if high != 0x82 && high != 0xc2 {
			for _, last := range []byte{0, 0x80} {
				list = append(list, string([]byte{high, low, last}))
			}
		}
	}
	return list
}

func TestRlpOfFewBytes(t *testing.T) {
	t.Parallel()
	few := fewRlp()
	for _, r := range []struct {
		schema string
		counts [4]int
	}{
		{"u8", [4]int{0, 128, 128, 0}},
		{"u16", [4]int{0, 128, 128, 65280}},
		{"u64", [4]int{0, 128, 128, 65280}},
		{"bool", [4]int{0, 2, 0, 0}},
		{"bytes0", [4]int{0, 1, 0, 0}},
		{"bytes1", [4]int{0, 129, 128, 0}},
		{"bytes200", [4]int{0, 129, 128, 65536}},
		{"fixed1", [4]int{0, 128, 128, 0}},
		{"fixed2", [4]int{0, 0, 0, 65536}},
		{"list20 bool", [4]int{0, 1, 2, 4}},
		{"list1 bytes1", [4]int{0, 1, 129, 128}},
		{"list1 u8", [4]int{0, 1, 128, 128}},
		{"vector2 bool", [4]int{0, 0, 0, 4}},
		{"struct1 u8", [4]int{0, 0, 128, 128}},
		{"struct2 bool bytes1", [4]int{0, 0, 0, 258}},
		{"option bool", [4]int{0, 1, 2, 0}},
		{"option option bool", [4]int{0, 1, 1, 2}},
		{"option list2 bool", [4]int{0, 1, 1, 2}},
		{"union1 bool", [4]int{0, 0, 0, 2}},
		{"union3 bool u8 bytes0", [4]int{0, 0, 0, 2 + 128 + 1}},
	} {
		wireOf("RLP").checkCounts(t, few, r.schema, r.counts)
	}
}

func TestRlpOfEachKind(t *testing.T) {
	w := wireOf("RLP")
	for _, r := range []struct{ schema, value, b string }{
		{"u8", "0", "\x80"}, {"u8", "1", "\x01"}, {"u8", "127", "\x7f"}, {"u8", "128", "\x81\x80"}, {"u8", "255", "\x81\xff"},
		{"u16", "255", "\x81\xff"}, {"u16", "256", "\x82\x01\x00"}, {"u16", "65535", "\x82\xff\xff"},
		{"u32", "0", "\x80"}, {"u32", "65536", "\x83\x01\x00\x00"}, {"u32", "4294967295", "\x84\xff\xff\xff\xff"},
		{"u64", "0", "\x80"}, {"u64", "4294967296", "\x85\x01\x00\x00\x00\x00"}, {"u64", "18446744073709551615", "\x88\xff\xff\xff\xff\xff\xff\xff\xff"},
		{"bool", "f", "\x80"}, {"bool", "t", "\x01"},
		{"bytes0", "b:", "\x80"}, {"bytes9", "b:", "\x80"}, {"bytes9", "b:00", "\x00"}, {"bytes9", "b:7f", "\x7f"}, {"bytes9", "b:80", "\x81\x80"}, {"bytes9", "b:0000", "\x82\x00\x00"},
		{"fixed1", "x:00", "\x00"}, {"fixed1", "x:7f", "\x7f"}, {"fixed1", "x:80", "\x81\x80"}, {"fixed2", "x:0005", "\x82\x00\x05"},
		{"list3 u8", "l0", "\xc0"}, {"list3 u8", "l3 0 1 200", "\xc4\x80\x01\x81\xc8"}, {"list3 list3 u8", "l2 l0 l1 0", "\xc3\xc0\xc1\x80"},
		{"vector2 u8", "v2 0 1", "\xc2\x80\x01"}, {"struct2 u8 list3 bool", "s2 7 l2 t f", "\xc4\x07\xc2\x01\x80"},
		{"option u8", "none", "\xc0"}, {"option u8", "some 0", "\xc1\x80"}, {"option list2 u8", "some l0", "\xc1\xc0"},
		{"union3 u8 bool bytes3", "c0 5", "\xc2\x80\x05"}, {"union3 u8 bool bytes3", "c1 f", "\xc2\x01\x80"}, {"union3 u8 bool bytes3", "c2 b:", "\xc2\x02\x80"},
		{"union4 u8 u8 u8 option u8", "c3 none", "\xc2\x03\xc0"},
	} {
		s := schemaOf(t, r.schema)
		w.check(t, s, valueOf(t, r.value), r.b)
		w.checkEnds(t, s, r.b)
	}
}

func TestRlpOfLongParts(t *testing.T) {
	w := wireOf("RLP")
	for _, r := range []struct {
		n    int
		head string
		list string
	}{{54, "\xb6", "\xf7"}, {55, "\xb7", "\xf8\x38"}, {56, "\xb8\x38", "\xf8\x3a"}, {200, "\xb8\xc8", "\xf8\xca"}} {
		text := strings.Repeat("z", r.n)
		it := impl.Item{Kind: impl.TyBytes, S: text}
		w.check(t, schemaOf(t, "bytes200"), []impl.Item{it}, r.head+text)
		w.check(t, schemaOf(t, "list1 bytes200"), []impl.Item{{Kind: impl.TyList, N: 1}, it}, r.list+r.head+text)
		w.check(t, schemaOf(t, "option bytes200"), []impl.Item{{Kind: impl.TyOption, N: 1}, it}, r.list+r.head+text)
	}
	for _, r := range []struct {
		schema string
		last   string
		head   string
		list   string
	}{
		{"struct2 fixed52 bytes200", "\xff", "\x81", "\xf7"},
		{"struct2 fixed52 bytes200", "zz", "\x82", "\xf8\x38"},
		{"struct2 fixed52 bytes200", strings.Repeat("z", 200), "\xb8\xc8", "\xf8\xff"},
		{"struct2 fixed53 bytes200", strings.Repeat("z", 200), "\xb8\xc8", "\xf9\x01\x00"},
	} {
		s := schemaOf(t, r.schema)
		first := strings.Repeat("a", int(s[1].N))
		v := []impl.Item{{Kind: impl.TyStruct, N: 2}, {Kind: impl.TyFixed, S: first}, {Kind: impl.TyBytes, S: r.last}}
		b := r.list + string([]byte{128 + byte(len(first))}) + first + r.head + r.last
		w.check(t, s, v, b)
		w.checkEnds(t, s, b)
	}
}

func TestWrongRlp(t *testing.T) {
	long := strings.Repeat("z", 60)
	wireOf("RLP").checkWrong(t, []wrong{
		{"u8", []string{"", "\x00", "\x81\x00", "\x81\x01", "\x81\x7f", "\x82\x00\x80", "\x82\x01\x00", "\xc0", "\xc1\x05", "\x81", "\xb8\x01\x80", "\x05\x05", "\x80\x80", "\xb9\x00\x01\x80", "\xff"}},
		{"u16", []string{"\x82\x00\xff", "\x83\x01\x00\x00", "\x83\x00\x01\x00", "\x82\x01"}},
		{"u32", []string{"\x84\x00\xff\xff\xff", "\x85\x01\x00\x00\x00\x00", "\x84\xff\xff\xff"}},
		{"u64", []string{"\x88\x00\xff\xff\xff\xff\xff\xff\xff", "\x89\x01\x00\x00\x00\x00\x00\x00\x00\x00", "\x89\x00\x01\x00\x00\x00\x00\x00\x00\x00", "\xb8\x3c" + long}},
		{"bool", []string{"\x00", "\x02", "\x7f", "\x81\x01", "\x81\x80", "\xc0", "\xc1\x01", "\x82\x00\x01"}},
		{"bytes3", []string{"\x81\x00", "\x81\x7f", "\x82z", "\x84zzzz", "\xb8\x02zz", "\xc0", "\xc1\x00", "\xc3zzz", "zz", "\xb9\x00\x02zz"}},
		{"bytes200", []string{"\xb8\x37" + long[:55], "\xb8\x3b" + long, "\xb8\x3d" + long, "\xb9\x00\x3c" + long, "\xba\x00\x00\x3c" + long, "\xf8\x3c" + long, "\xb8\xc9" + strings.Repeat("z", 201), "\xb9\x01\x00" + strings.Repeat("z", 256)}},
		{"fixed2", []string{"\x80", "\x7f", "\x81\xff", "\x83zzz", "\xc2zz", "\xb8\x02zz", "\x82z"}},
		{"list2 u8", []string{"\x80", "\x82\x01\x02", "\x01", "\xc3\x01\x02\x03", "\xc2\x01", "\xc1\x01\x02", "\xc2\x01\x00", "\xc2\x81\x01", "\xc1\xc0", "\xf8\x02\x01\x02", "\xf9\x00\x02\x01\x02", "\xc1\x81\x80", "\xc2\x01\x81\x80"}},
		{"list2 bytes200", []string{"\xc2\x82zz", "\xc1\x81", "\xc3\x83zz", "\xc4\xb8\x38zz" + long, "\xc1\xb8\x38" + long[:56]}},
		{"list2 list2 u8", []string{"\xc2\xc2\x01\x02", "\xc2\xc3\x01\x02", "\xc2\x01\x02", "\xc1\xc1\x01", "\xc3\xc1\x01\x80"}},
		{"vector2 u8", []string{"\xc0", "\xc1\x01", "\xc3\x01\x02\x03", "\x82\x01\x02", "\xc2\x01\xc0"}},
		{"struct2 u8 bool", []string{"\xc0", "\xc1\x07", "\xc3\x07\x01\x01", "\xc2\x01\x07", "\x82\x07\x01", "\xc3\x07\x01", "\xc2\xc0\x01"}},
		{"option u8", []string{"\x80", "\x05", "\xc2\x01\x02", "\xc1\x00", "\xc1\xc0", "\xc2\x05", "\xc2\x81\x05", "\xf8\x00", "\xc1"}},
		{"option bool", []string{"\xc1\x02", "\xc2\x80\x80", "\x01"}},
		{"union3 u8 bool bytes3", []string{"\x80", "\xc0", "\xc1\x80", "\xc1\x05", "\xc2\x00\x05", "\xc2\x03\x05", "\xc2\x01\x05", "\xc3\x80\x05\x05", "\xc3\x81\x01\x01", "\xc2\xc0\x05", "\xc3\xc1\x80\x05", "\x82\x80\x05", "\xca\x89\x01\x00\x00\x00\x00\x00\x00\x00\x00", "\xc4\x82\x00\x01\x01", "\xc2\x80\xc0"}},
		{"union1 u8", []string{"\xc2\x01\x05", "\xc1\x80", "\xc1\x05"}},
	})
}
