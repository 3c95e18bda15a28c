package tests

import (
	"math/rand/v2"
	"slices"
	"strings"
	"testing"

	"loop.example/g00774/impl"
)

// oneLength tells how many bytes the values of sh have, and whether all have
// as many.
func oneLength(sh shape) (int64, bool) {
	switch sh.typ.Kind {
	case impl.TyUint:
		return map[int64]int64{8: 1, 16: 2, 32: 4, 64: 8}[sh.typ.N], true
	case impl.TyBool:
		return 1, true
	case impl.TyFixed:
		return sh.typ.N, true
	case impl.TyVector, impl.TyStruct:
		n := int64(0)
		for _, part := range sh.under(uint64(sh.typ.N)) {
			k, ok := oneLength(part)
			if !ok {
				return 0, false
			}
			n += k
		}
		return n, true
	}
	return 0, false
}

// sszOf is the tests' own reading of chapter 5: it leaves room for where the
// parts begin, and fills it when their bytes are laid behind.
func sszOf(sh shape, v []impl.Item) ([]byte, []impl.Item) {
	it, rest := v[0], v[1:]
	parts := sh.under(it.N)
	var b, more []byte
	switch it.Kind {
	case impl.TyUint:
		return lowFirst(it.N, sh.typ.N/8), rest
	case impl.TyBool:
		return []byte{byte(it.N)}, rest
	case impl.TyBytes, impl.TyFixed:
		return []byte(it.S), rest
	case impl.TyOption, impl.TyUnion:
		b = []byte{byte(it.N)}
		if len(parts) > 0 {
			more, rest = sszOf(parts[0], rest)
		}
		return append(b, more...), rest
	}
	var places []int
	var late [][]byte
	for _, part := range parts {
		more, rest = sszOf(part, rest)
		if _, ok := oneLength(part); ok {
			b = append(b, more...)
			continue
		}
		places, late = append(places, len(b)), append(late, more)
		b = append(b, "????"...)
	}
	for i, at := range places {
		copy(b[at:], lowFirst(uint64(len(b)), 4))
		b = append(b, late[i]...)
	}
	return b, rest
}

func TestSszOfEachKind(t *testing.T) {
	w := wireOf("SSZ")
	for _, r := range []struct{ schema, value, b string }{
		{"u8", "0", "\x00"}, {"u8", "255", "\xff"}, {"u16", "0", "\x00\x00"}, {"u16", "256", "\x00\x01"}, {"u16", "65535", "\xff\xff"},
		{"u32", "1", "\x01\x00\x00\x00"}, {"u32", "16909060", "\x04\x03\x02\x01"}, {"u32", "4294967295", "\xff\xff\xff\xff"},
		{"u64", "0", "\x00\x00\x00\x00\x00\x00\x00\x00"}, {"u64", "72623859790382856", "\x08\x07\x06\x05\x04\x03\x02\x01"}, {"u64", "18446744073709551615", "\xff\xff\xff\xff\xff\xff\xff\xff"},
		{"bool", "f", "\x00"}, {"bool", "t", "\x01"},
		{"bytes0", "b:", ""}, {"bytes3", "b:", ""}, {"bytes3", "b:00", "\x00"}, {"bytes3", "b:616263", "abc"},
		{"fixed1", "x:00", "\x00"}, {"fixed3", "x:616263", "abc"},
		{"list3 u16", "l0", ""}, {"list3 u16", "l1 7", "\x07\x00"}, {"list3 u16", "l3 7 8 9", "\x07\x00\x08\x00\x09\x00"},
		{"list3 bytes3", "l0", ""}, {"list3 bytes3", "l1 b:", "\x04\x00\x00\x00"}, {"list3 bytes3", "l1 b:61", "\x04\x00\x00\x00a"},
		{"list3 bytes3", "l3 b: b:61 b:6262", "\x0c\x00\x00\x00\x0c\x00\x00\x00\x0d\x00\x00\x00abb"}, {"list3 bytes3", "l3 b:61 b: b:", "\x0c\x00\x00\x00\x0d\x00\x00\x00\x0d\x00\x00\x00a"},
		{"list3 option u8", "l2 none some 7", "\x08\x00\x00\x00\x09\x00\x00\x00\x00\x01\x07"},
		{"list2 vector2 u8", "l2 v2 1 2 v2 3 4", "\x01\x02\x03\x04"}, {"list2 struct2 u8 u16", "l1 s2 1 2", "\x01\x02\x00"},
		{"list2 list2 u16", "l2 l0 l1 7", "\x08\x00\x00\x00\x08\x00\x00\x00\x07\x00"}, {"list2 list2 bytes2", "l1 l1 b:61", "\x04\x00\x00\x00\x04\x00\x00\x00a"},
		{"vector1 u8", "v1 7", "\x07"}, {"vector3 bool", "v3 t f t", "\x01\x00\x01"}, {"vector1 bytes2", "v1 b:", "\x04\x00\x00\x00"}, {"vector2 bytes2", "v2 b:61 b:", "\x08\x00\x00\x00\x09\x00\x00\x00a"},
		{"vector2 list2 u8", "v2 l0 l0", "\x08\x00\x00\x00\x08\x00\x00\x00"},
		{"struct1 u8", "s1 7", "\x07"}, {"struct3 u8 u16 fixed2", "s3 7 8 x:6162", "\x07\x08\x00ab"}, {"struct1 bytes2", "s1 b:61", "\x04\x00\x00\x00a"},
		{"struct2 bytes2 u8", "s2 b:61 7", "\x05\x00\x00\x00\x07a"}, {"struct2 u8 bytes2", "s2 7 b:61", "\x07\x05\x00\x00\x00a"},
		{"struct4 bytes2 u16 list2 u8 bool", "s4 b:6162 7 l2 8 9 t", "\x0b\x00\x00\x00\x07\x00\x0d\x00\x00\x00\x01ab\x08\x09"},
		{"struct4 u16 bytes2 bool list2 u8", "s4 7 b: f l1 9", "\x07\x00\x0b\x00\x00\x00\x00\x0b\x00\x00\x00\x09"},
		{"struct2 struct2 u8 bytes2 bytes2", "s2 s2 7 b:61 b:62", "\x08\x00\x00\x00\x0e\x00\x00\x00\x07\x05\x00\x00\x00ab"},
		{"struct2 vector2 u8 struct1 bool", "s2 v2 7 8 s1 t", "\x07\x08\x01"},
		{"struct2 option u8 union2 u8 u8", "s2 none c1 7", "\x08\x00\x00\x00\x09\x00\x00\x00\x00\x01\x07"},
		{"option u8", "none", "\x00"}, {"option u8", "some 0", "\x01\x00"}, {"option bytes2", "some b:", "\x01"}, {"option bytes2", "some b:61", "\x01a"}, {"option option u8", "some none", "\x01\x00"}, {"option list2 bytes1", "some l1 b:61", "\x01\x04\x00\x00\x00a"},
		{"union3 u8 bool bytes3", "c0 7", "\x00\x07"}, {"union3 u8 bool bytes3", "c1 t", "\x01\x01"}, {"union3 u8 bool bytes3", "c2 b:", "\x02"}, {"union3 u8 bool bytes3", "c2 b:61", "\x02a"},
		{"union1 u8", "c0 7", "\x00\x07"}, {"union4 u8 u8 u8 option u8", "c3 none", "\x03\x00"},
	} {
		s := schemaOf(t, r.schema)
		w.check(t, s, valueOf(t, r.value), r.b)
		w.checkEnds(t, s, r.b)
	}
}

func TestSszSize(t *testing.T) {
	for _, r := range []struct {
		schema string
		size   int64
	}{
		{"u8", 1}, {"u16", 2}, {"u32", 4}, {"u64", 8}, {"bool", 1}, {"fixed1", 1}, {"fixed64", 64},
		{"bytes0", -1}, {"bytes1", -1}, {"bytes200", -1}, {"list1 u8", -1}, {"list20 fixed64", -1}, {"option u8", -1}, {"union1 u8", -1}, {"union2 u8 u8", -1},
		{"vector1 u8", 1}, {"vector8 u64", 64}, {"vector3 fixed5", 15}, {"vector2 vector3 u16", 12}, {"vector2 struct2 u8 u16", 6},
		{"vector1 bytes0", -1}, {"vector8 list1 u8", -1}, {"vector2 option u8", -1}, {"vector2 union1 u8", -1}, {"vector2 vector2 bytes1", -1}, {"vector2 struct2 u8 bytes1", -1},
		{"struct1 u8", 1}, {"struct3 u8 u16 u32", 7}, {"struct6 u64 u64 u64 u64 u64 fixed64", 104}, {"struct2 struct2 u8 bool vector3 u16", 8}, {"struct1 struct1 struct1 struct1 struct1 struct1 u32", 4},
		{"struct1 bytes0", -1}, {"struct3 u8 u8 bytes1", -1}, {"struct3 bytes1 u8 u8", -1}, {"struct3 u8 option u8 u8", -1}, {"struct2 u8 list1 u8", -1}, {"struct2 u8 union1 u8", -1}, {"struct2 u8 struct2 u8 bytes0", -1}, {"struct2 struct1 bytes0 u8", -1}, {"struct2 bytes1 bytes1", -1},
		{"vector8 vector8 vector8 vector8 vector8 vector8 fixed64", 64 << 18}, {"vector8 vector8 vector8 vector8 vector8 vector8 bytes64", -1},
	} {
		if size := impl.SszSize(schemaOf(t, r.schema)); size != r.size {
			t.Errorf("%s has values of %d bytes", r.schema, size)
		}
	}
}

func TestSchemasThatAreNotVariableHaveOneLength(t *testing.T) {
	same, other := 0, 0
	eachRandom(func(_ *rand.Rand, sh shape, v []impl.Item) {
		s := sh.schema()
		want, ok := oneLength(sh)
		if !ok {
			want = -1
			other++
		}
		if size := impl.SszSize(s); size != want {
			t.Fatalf("%s has values of %d bytes, not %d", impl.SchemaText(s), size, want)
		}
		if !ok || len(v) > 200 {
			return
		}
		same++
		b, is := impl.SszEnc(s, v)
		if !is || int64(len(b)) != want {
			t.Fatalf("%s: %v is written as %q, %v", impl.SchemaText(s), v, b, is)
		}
		wireOf("SSZ").checkNone(t, s, b+"\x00")
		wireOf("SSZ").checkNone(t, s, b[1:])
		wireOf("SSZ").checkNone(t, s, b+b)
	})
	if same < 1000 || other < 1000 {
		t.Errorf("%d had one length, %d had not", same, other)
	}
}

func TestSszOfMostParts(t *testing.T) {
	w := wireOf("SSZ")
	for n := range 21 {
		count := impl.Item{Kind: impl.TyList, N: uint64(n)}
		numbers := append([]impl.Item{count}, slices.Repeat([]impl.Item{{Kind: impl.TyUint, N: 5}}, n)...)
		w.check(t, schemaOf(t, "list20 u16"), numbers, strings.Repeat("\x05\x00", n))
		w.checkEnds(t, schemaOf(t, "list20 u16"), strings.Repeat("\x05\x00", n))
		texts := append([]impl.Item{count}, slices.Repeat([]impl.Item{{Kind: impl.TyBytes}}, n)...)
		w.check(t, schemaOf(t, "list20 bytes0"), texts, strings.Repeat(string(lowFirst(uint64(4*n), 4)), n))
	}
	w.checkNone(t, schemaOf(t, "list20 u16"), strings.Repeat("\x05\x00", 21))
	w.checkNone(t, schemaOf(t, "list20 bytes0"), strings.Repeat("\x54\x00\x00\x00", 21))
	for _, n := range []int{0, 1, 199, 200} {
		text := strings.Repeat("z", n)
		it := impl.Item{Kind: impl.TyBytes, S: text}
		w.check(t, schemaOf(t, "bytes200"), []impl.Item{it}, text)
		w.check(t, schemaOf(t, "vector2 bytes200"), []impl.Item{{Kind: impl.TyVector, N: 2}, it, it}, "\x08\x00\x00\x00"+string(lowFirst(uint64(8+n), 4))+text+text)
	}
	w.checkNone(t, schemaOf(t, "bytes200"), strings.Repeat("z", 201))
	w.checkNone(t, schemaOf(t, "list1 bytes200"), "\x04\x00\x00\x00"+strings.Repeat("z", 201))
}

func TestSszOfFewBytes(t *testing.T) {
	t.Parallel()
	few := fewBytes()
	for _, r := range []struct {
		schema string
		counts [4]int
	}{
		{"u8", [4]int{0, 256, 0, 0}},
		{"u16", [4]int{0, 0, 65536, 0}},
		{"u32", [4]int{}},
		{"bool", [4]int{0, 2, 0, 0}},
		{"bytes0", [4]int{1, 0, 0, 0}},
		{"bytes1", [4]int{1, 256, 0, 0}},
		{"bytes200", [4]int{1, 256, 65536, 10 * 256 * 4}},
		{"fixed1", [4]int{0, 256, 0, 0}},
		{"fixed2", [4]int{0, 0, 65536, 0}},
		{"list20 bool", [4]int{1, 2, 4, 8}},
		{"list2 u8", [4]int{1, 256, 65536, 0}},
		{"list20 u16", [4]int{1, 0, 65536, 0}},
		{"list20 bytes1", [4]int{1, 0, 0, 0}},
		{"vector2 bool", [4]int{0, 0, 4, 0}},
		{"vector2 bytes1", [4]int{}},
		{"struct1 u8", [4]int{0, 256, 0, 0}},
		{"struct2 bool u8", [4]int{0, 0, 2 * 256, 0}},
		{"struct2 bool bytes1", [4]int{}},
		{"option bool", [4]int{0, 1, 2, 0}},
		{"option option bool", [4]int{0, 1, 1, 2}},
		{"option bytes1", [4]int{0, 2, 256, 0}},
		{"option list2 u8", [4]int{0, 2, 256, 256 * 4}},
		{"union1 bool", [4]int{0, 0, 2, 0}},
		{"union3 bool u8 bytes0", [4]int{0, 1, 2 + 256, 0}},
	} {
		wireOf("SSZ").checkCounts(t, few, r.schema, r.counts)
	}
}

// heads has, for each w of a form, all places below 18, and, for each other
// letter, that.
func heads(form string) []string {
	list := []string{""}
	for _, letter := range form {
		var longer []string
		for _, head := range list {
			if letter != 'w' {
				longer = append(longer, head+string(letter))
				continue
			}
			for n := range uint64(18) {
				longer = append(longer, head+string(lowFirst(n, 4)))
			}
		}
		list = longer
	}
	return list
}

// TestWherePartsBegin counts which of all places are read: as many as there
// are lengths of the parts, none of which has room for a place itself.
func TestWherePartsBegin(t *testing.T) {
	w := wireOf("SSZ")
	for _, r := range []struct {
		schema string
		forms  []string
		count  int
	}{
		{"list2 bytes1", []string{"", "w", "ww", "www"}, 1 + 2 + 4},
		{"list2 bytes2", []string{"", "w", "ww"}, 1 + 3 + 9},
		{"list3 bytes1", []string{"", "w", "ww", "www"}, 1 + 2 + 4 + 8},
		{"list3 list1 u8", []string{"", "w", "ww", "www"}, 1 + 2 + 4 + 8},
		{"list2 list1 u16", []string{"", "w", "ww"}, 1 + 2 + 4},
		{"vector1 bytes2", []string{"", "w", "ww"}, 3},
		{"vector2 bytes1", []string{"", "w", "ww", "www"}, 4},
		{"vector2 bytes2", []string{"", "w", "ww"}, 9},
		{"vector3 bytes1", []string{"w", "ww", "www"}, 8},
		{"struct1 bytes2", []string{"", "w", "ww"}, 3},
		{"struct2 bytes2 u8", []string{"wa", "aw", "ww"}, 3},
		{"struct2 u8 bytes2", []string{"wa", "aw", "ww"}, 3},
		{"struct3 u8 bytes2 u8", []string{"awa", "waa", "aaw"}, 3},
		{"struct3 bytes2 u8 bytes1", []string{"waw", "wwa", "aww"}, 6},
		{"struct4 u8 bytes2 u8 bytes1", []string{"awaw", "waaw", "aaww", "wawa"}, 6},
		{"struct3 bytes1 bytes1 bytes1", []string{"w", "ww", "www"}, 8},
	} {
		count := 0
		s := schemaOf(t, r.schema)
		for _, form := range r.forms {
			for _, head := range heads(form) {
				for n := range 8 {
					if w.again(t, s, head+strings.Repeat("a", n)) {
						count++
					}
				}
			}
		}
		if count != r.count {
			t.Errorf("%s: %d values, not %d", r.schema, count, r.count)
		}
	}
}

func TestWrongSsz(t *testing.T) {
	wireOf("SSZ").checkWrong(t, []wrong{
		{"u8", []string{"", "\x00\x00"}},
		{"u16", []string{"", "\x01", "\x01\x00\x00"}},
		{"u32", []string{"", "\x01\x00\x00", "\x01\x00\x00\x00\x00"}},
		{"u64", []string{"", "\x01\x00\x00\x00", "\x01\x00\x00\x00\x00\x00\x00", "\x01\x00\x00\x00\x00\x00\x00\x00\x00"}},
		{"bool", []string{"", "\x02", "\x03", "\x80", "\xff", "\x01\x00", "\x00\x00"}},
		{"bytes0", []string{"\x00", "a"}},
		{"bytes2", []string{"abc"}},
		{"fixed2", []string{"", "a", "abc"}},
		{"list2 u8", []string{"abc"}},
		{"list2 u16", []string{"a", "abc", "abcde", "abcdef"}},
		{"list2 bool", []string{"\x02", "\x01\x02", "\x02\x01"}},
		{"list2 struct2 u8 u16", []string{"a", "ab", "abcd", "abcde", "abcdefg", "abcdefghi"}},
		{"list2 vector2 u8", []string{"a", "abc", "abcdef"}},
		{"list3 bytes3", []string{
			"\x00", "\x04", "\x04\x00\x00", "\x00\x00\x00\x00", "\x01\x00\x00\x00", "\x03\x00\x00\x00", "\x05\x00\x00\x00", "\x05\x00\x00\x00a", "\x03\x00\x00\x00a", "\x08\x00\x00\x00", "\x08\x00\x00\x00aaa",
			"\x07\x00\x00\x00\x08\x00\x00\x00abc", "\x09\x00\x00\x00\x09\x00\x00\x00abc", "\x08\x00\x00\x00\x07\x00\x00\x00abc", "\x08\x00\x00\x00\x0c\x00\x00\x00abc", "\x08\x00\x00\x00\x00\x00\x00\x00abc",
			"\x08\x00\x00\x00\x08\x01\x00\x00abc", "\x08\x00\x00\x00\x08\x00\x01\x00abc", "\x08\x00\x00\x00\x08\x00\x00\x01abc", "\x08\x00\x00\x00\xff\xff\xff\xffabc", "\xff\xff\xff\xff\x08\x00\x00\x00abc", "\x08\x00\x00\x80\x08\x00\x00\x00abc", "\x08\x01\x00\x00\x08\x00\x00\x00abc",
			"\x0c\x00\x00\x00\x0e\x00\x00\x00\x0d\x00\x00\x00aaa", "\x0c\x00\x00\x00\x0b\x00\x00\x00\x0c\x00\x00\x00aaa", "\x0c\x00\x00\x00\x0d\x00\x00\x00\x0c\x00\x00\x00aaa", "\x0c\x00\x00\x00\x10\x00\x00\x00\x0f\x00\x00\x00aaa",
			"\x10\x00\x00\x00\x10\x00\x00\x00\x10\x00\x00\x00\x10\x00\x00\x00", "\x08\x00\x00\x00\x08\x00\x00\x00abcd", "\x08\x00\x00\x00\x0c\x00\x00\x00abcd", "\x04\x00\x00\x00\x04\x00\x00\x00abc",
		}},
		{"vector2 u8", []string{"", "a", "abc"}},
		{"vector2 bytes2", []string{"", "\x08\x00\x00\x00", "\x08\x00\x00\x00\x08\x00\x00", "\x04\x00\x00\x00a", "\x07\x00\x00\x00\x08\x00\x00\x00", "\x09\x00\x00\x00\x09\x00\x00\x00a", "\x08\x00\x00\x00\x07\x00\x00\x00", "\x08\x00\x00\x00\x09\x00\x00\x00", "\x0c\x00\x00\x00\x0c\x00\x00\x00\x0c\x00\x00\x00", "\x08\x00\x00\x00\xff\xff\xff\xffa", "\x08\x00\x00\x00\x08\x00\x00\x00abc", "\x08\x00\x00\x00\x0b\x00\x00\x00abc"}},
		{"struct2 u8 bool", []string{"", "\x07", "\x07\x02", "\x07\x01\x00"}},
		{"struct1 bytes2", []string{"", "\x04", "\x03\x00\x00\x00", "\x05\x00\x00\x00", "\x05\x00\x00\x00a", "\x00\x00\x00\x00", "\x04\x00\x00\x00abc", "\x04\x00\x00\x01ab"}},
		{"struct2 u8 bytes2", []string{"", "\x07", "\x07\x05\x00\x00", "\x07\x04\x00\x00\x00a", "\x07\x06\x00\x00\x00a", "\x07\x05\x00\x00\x00abc", "\x05\x00\x00\x00\x07a", "\x07\x00\x00\x00\x00a", "\x07\x05\x00\x00\x80a"}},
		{"struct3 bytes2 u16 bytes2", []string{"\x0a\x00\x00\x00\x07\x00\x0a\x00\x00", "\x09\x00\x00\x00\x07\x00\x0a\x00\x00\x00a", "\x0b\x00\x00\x00\x07\x00\x0b\x00\x00\x00a", "\x0a\x00\x00\x00\x07\x00\x09\x00\x00\x00a", "\x0a\x00\x00\x00\x07\x00\x0c\x00\x00\x00a", "\x0b\x00\x00\x00\x07\x00\x0a\x00\x00\x00a"}},
		{"struct2 list2 u16 bytes1", []string{"\x08\x00\x00\x00\x09\x00\x00\x00aa", "\x08\x00\x00\x00\x0e\x00\x00\x00aaaaaa", "\x08\x00\x00\x00\x08\x00\x00\x00aa"}},
		{"struct2 option u8 bool", []string{"\x05\x00\x00\x00\x01", "\x05\x00\x00\x00\x01\x01", "\x05\x00\x00\x00\x02\x00", "\x05\x00\x00\x00\x01\x02\x05", "\x05\x00\x00\x00\x01\x00\x00"}},
		{"option u8", []string{"", "\x01", "\x02", "\x02\x05", "\x03\x05", "\xff\x05", "\x00\x00", "\x00\x05", "\x01\x05\x05"}},
		{"option bytes2", []string{"", "\x02", "\x02a", "\x00a", "\x01abc"}},
		{"option option u8", []string{"\x01", "\x01\x02\x05", "\x02\x01\x05", "\x01\x00\x05"}},
		{"union3 u8 bool bytes2", []string{"", "\x00", "\x01", "\x03", "\x03\x01", "\x04\x01", "\x80\x01", "\xff\x01", "\x01\x02", "\x02abc", "\x00\x07\x07"}},
		{"union1 u8", []string{"", "\x00", "\x01", "\x01\x07", "\x02\x07"}},
		{"union4 u8 u8 u8 u8", []string{"\x04\x07", "\x05\x07", "\x03"}},
	})
}
