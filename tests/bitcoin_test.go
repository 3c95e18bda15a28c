package tests

import (
	"math/rand/v2"
	"slices"
	"strings"
	"testing"

	"loop.example/g00774/impl"
)

// bitcoinCount writes a count, of which none here is above 200.
func bitcoinCount(n int) []byte {
	return []byte{byte(n)}
}

// isPlain is the tests' own reading of BitcoinOk.
func isPlain(sh shape) bool {
	return !slices.ContainsFunc(sh.schema(), func(t impl.Typ) bool {
		return t.Kind == impl.TyOption || t.Kind == impl.TyUnion
	})
}

// plain puts lists and structs where options and unions stand.
func plain(sh shape) shape {
	switch sh.typ.Kind {
	case impl.TyOption:
		sh.typ = impl.Typ{Kind: impl.TyList, N: 1}
	case impl.TyUnion:
		sh.typ.Kind = impl.TyStruct
	}
	parts := slices.Clone(sh.parts)
	for i := range parts {
		parts[i] = plain(parts[i])
	}
	return shape{sh.typ, parts}
}

func randomPlainOrNot(r *rand.Rand, deep int) shape {
	sh := randomShape(r, deep)
	if r.IntN(5) == 0 {
		return sh
	}
	return plain(sh)
}

func checkBitcoinOk(t *testing.T, s []impl.Typ, want bool) {
	t.Helper()
	if ok := impl.BitcoinOk(s); ok != want {
		t.Errorf("BitcoinOk of %s is %v", impl.SchemaText(s), ok)
	}
}

func TestBitcoinOk(t *testing.T) {
	for _, form := range []string{
		"F", "list3 F", "vector2 F", "struct1 F", "struct3 F u8 u8", "struct3 u8 F u8", "struct3 u8 bytes3 F", "list2 list2 F", "list2 vector2 F", "vector2 struct2 u8 F", "struct2 vector2 u8 list2 F",
		"struct1 struct1 struct1 struct1 struct1 F", "struct2 list2 struct2 u8 F fixed2", "list2 vector2 list2 vector2 list2 F",
	} {
		for _, f := range []struct {
			text string
			ok   bool
		}{
			{"u8", true}, {"u64", true}, {"bool", true}, {"bytes0", true}, {"bytes200", true}, {"fixed64", true}, {"list1 u8", true}, {"vector8 bool", true}, {"struct1 bytes3", true},
			{"option u8", false}, {"union1 u8", false}, {"union4 u8 u8 u8 u8", false}, {"option bytes3", false},
		} {
			s := schemaOf(t, strings.Replace(form, "F", f.text, 1))
			checkBitcoinOk(t, s, f.ok)
			if !f.ok {
				wireOf("Bitcoin").checkNotAdmitted(t, s, impl.ZeroOf(s))
			}
		}
	}
	for _, s := range [][]impl.Typ{nil, {}, {{Kind: 5, N: 1}}, {{Kind: 1, N: 7}}, {{Kind: 1, N: 8}, {Kind: 1, N: 8}}, {{Kind: 0}}, {{Kind: 10}}, slices.Repeat([]impl.Typ{{Kind: 5, N: 1}}, 100000)} {
		checkBitcoinOk(t, s, false)
	}
}

func TestBitcoinOkOfManySchemas(t *testing.T) {
	r := rand.New(rand.NewPCG(9, 10))
	good, bad := 0, 0
	for range 6000 {
		sh := randomPlainOrNot(r, 1+r.IntN(4))
		ok := isPlain(sh) && len(sh.schema()) <= 40
		checkBitcoinOk(t, sh.schema(), ok)
		if ok {
			good++
		} else {
			bad++
		}
	}
	if good < 1000 || bad < 300 {
		t.Errorf("%d that are admitted, %d others", good, bad)
	}
}

func TestBitcoinOfEachKind(t *testing.T) {
	w := wireOf("Bitcoin")
	for _, r := range []struct{ schema, value, b string }{
		{"u8", "0", "\x00"}, {"u8", "255", "\xff"}, {"u16", "0", "\x00\x00"}, {"u16", "253", "\xfd\x00"}, {"u16", "256", "\x00\x01"}, {"u16", "65535", "\xff\xff"},
		{"u32", "1", "\x01\x00\x00\x00"}, {"u32", "16909060", "\x04\x03\x02\x01"}, {"u32", "4294967295", "\xff\xff\xff\xff"},
		{"u64", "0", "\x00\x00\x00\x00\x00\x00\x00\x00"}, {"u64", "72623859790382856", "\x08\x07\x06\x05\x04\x03\x02\x01"}, {"u64", "18446744073709551615", "\xff\xff\xff\xff\xff\xff\xff\xff"},
		{"bool", "f", "\x00"}, {"bool", "t", "\x01"},
		{"bytes0", "b:", "\x00"}, {"bytes3", "b:", "\x00"}, {"bytes3", "b:00", "\x01\x00"}, {"bytes3", "b:616263", "\x03abc"},
		{"fixed1", "x:00", "\x00"}, {"fixed3", "x:616263", "abc"},
		{"list3 u16", "l0", "\x00"}, {"list3 u16", "l1 7", "\x01\x07\x00"}, {"list3 u16", "l3 7 8 9", "\x03\x07\x00\x08\x00\x09\x00"},
		{"list3 bytes3", "l0", "\x00"}, {"list3 bytes3", "l1 b:", "\x01\x00"}, {"list3 bytes3", "l3 b: b:61 b:6262", "\x03\x00\x01a\x02bb"},
		{"list1 list2 bool", "l1 l2 t f", "\x01\x02\x01\x00"},
		{"vector1 u8", "v1 7", "\x07"}, {"vector3 u8", "v3 7 8 9", "\x07\x08\x09"}, {"vector2 bytes2", "v2 b: b:61", "\x00\x01a"}, {"vector2 list2 u8", "v2 l1 7 l0", "\x01\x07\x00"},
		{"struct1 u8", "s1 7", "\x07"}, {"struct2 u8 bool", "s2 7 t", "\x07\x01"}, {"struct4 bytes2 u8 list2 u8 u16", "s4 b:61 7 l1 8 9", "\x01a\x07\x01\x08\x09\x00"},
		{"struct2 struct1 fixed2 list2 struct2 u8 bytes1", "s2 s1 x:6162 l2 s2 7 b: s2 8 b:63", "ab\x02\x07\x00\x08\x01c"},
	} {
		s := schemaOf(t, r.schema)
		w.check(t, s, valueOf(t, r.value), r.b)
		w.checkEnds(t, s, r.b)
	}
}

func TestBitcoinOfMostParts(t *testing.T) {
	w := wireOf("Bitcoin")
	for n := range 201 {
		text := strings.Repeat("z", n)
		it := impl.Item{Kind: impl.TyBytes, S: text}
		b := string([]byte{byte(n)}) + text
		w.check(t, schemaOf(t, "bytes200"), []impl.Item{it}, b)
		w.check(t, schemaOf(t, "list1 bytes200"), []impl.Item{{Kind: impl.TyList, N: 1}, it}, "\x01"+b)
		w.checkNone(t, schemaOf(t, "bytes200"), "\xfd"+string([]byte{byte(n), 0})+text)
	}
	for n := range 22 {
		b := string([]byte{byte(n)}) + strings.Repeat("\x05", n)
		v := append([]impl.Item{{Kind: impl.TyList, N: uint64(n)}}, slices.Repeat([]impl.Item{{Kind: impl.TyUint, N: 5}}, n)...)
		if n > 20 {
			w.checkNone(t, schemaOf(t, "list20 u8"), b)
			w.checkUnwritten(t, schemaOf(t, "list20 u8"), v)
			continue
		}
		w.check(t, schemaOf(t, "list20 u8"), v, b)
		w.checkEnds(t, schemaOf(t, "list20 u8"), b)
	}
	// Counts of more bytes than a value may have, as PutSize writes them.
	for _, r := range []struct {
		n    int
		head string
	}{{201, "\xc9"}, {252, "\xfc"}, {253, "\xfd\xfd\x00"}, {254, "\xfd\xfe\x00"}, {65535, "\xfd\xff\xff"}, {65536, "\xfe\x00\x00\x01\x00"}} {
		w.checkNone(t, schemaOf(t, "bytes200"), r.head+strings.Repeat("z", r.n))
		w.checkNone(t, schemaOf(t, "list20 u8"), r.head+strings.Repeat("z", r.n))
		w.checkUnwritten(t, schemaOf(t, "bytes200"), []impl.Item{{Kind: impl.TyBytes, S: strings.Repeat("z", r.n)}})
	}
}

func TestBitcoinOfFewBytes(t *testing.T) {
	t.Parallel()
	few := fewBytes()
	for _, r := range []struct {
		schema string
		counts [4]int
	}{
		{"u8", [4]int{0, 256, 0, 0}},
		{"u16", [4]int{0, 0, 65536, 0}},
		{"u32", [4]int{}},
		{"bool", [4]int{0, 2, 0, 0}},
		{"bytes0", [4]int{0, 1, 0, 0}},
		{"bytes1", [4]int{0, 1, 256, 0}},
		{"bytes200", [4]int{0, 1, 256, 256 * 4}},
		{"fixed2", [4]int{0, 0, 65536, 0}},
		{"list20 bool", [4]int{0, 1, 2, 4}},
		{"list1 u8", [4]int{0, 1, 256, 0}},
		{"list2 bytes1", [4]int{0, 1, 1, 1 + 4}},
		{"vector2 bool", [4]int{0, 0, 4, 0}},
		{"struct1 u8", [4]int{0, 256, 0, 0}},
		{"struct2 bool bytes1", [4]int{0, 0, 2, 2 * 4}},
		{"option bool", [4]int{}},
		{"union2 bool u8", [4]int{}},
		{"struct2 u8 option u8", [4]int{}},
		{"list2 union1 u8", [4]int{}},
	} {
		wireOf("Bitcoin").checkCounts(t, few, r.schema, r.counts)
	}
}

func TestWrongBitcoin(t *testing.T) {
	wireOf("Bitcoin").checkWrong(t, []wrong{
		{"u8", []string{"", "\x00\x00"}},
		{"u16", []string{"", "\x01", "\x01\x00\x00"}},
		{"u64", []string{"", "\x01\x00\x00\x00", "\x01\x00\x00\x00\x00\x00\x00", "\x01\x00\x00\x00\x00\x00\x00\x00\x00"}},
		{"bool", []string{"", "\x02", "\x03", "\x80", "\xff", "\x01\x00", "\x00\x01"}},
		{"bytes0", []string{"", "\x01", "\x01a", "\x00a", "\xfd\x00\x00"}},
		{"bytes2", []string{"", "\x01", "\x02a", "\x03abc", "\x02abc", "\xfd", "\xfd\x02\x00ab", "\xfe\x02\x00\x00\x00ab", "\xff\x02\x00\x00\x00\x00\x00\x00\x00ab", "\xff\xff\xff\xff\xff\xff\xff\xff\xffab", "\xff\x02\x00\x00\x00\x00\x00\x00\x80ab", "\xfe\x02\x00\x01\x00ab"}},
		{"bytes200", []string{"\xfd\xc8\x00" + strings.Repeat("z", 200), "\xfc" + strings.Repeat("z", 252), "\xfd\xfd\x00" + strings.Repeat("z", 253), "\xc8" + strings.Repeat("z", 199), "\xc8" + strings.Repeat("z", 201)}},
		{"fixed2", []string{"", "a", "abc", "\x02ab"}},
		{"list2 u8", []string{"", "\x01", "\x02\x01", "\x01\x01\x02", "\x02\x01\x02\x03", "\x03\x01\x02\x03", "\xfd\x01\x00\x01", "\xfe\x02\x00\x00\x00\x01\x02", "\xff\xff\xff\xff\xff\xff\xff\xff\xff\x01\x02"}},
		{"list2 bool", []string{"\x01\x02", "\x02\x01\x02", "\x02\x02\x01"}},
		{"list2 bytes1", []string{"\x01", "\x02\x00", "\x01\x02ab", "\x02\x01\x00", "\x02\x01a", "\x02\x01a\x01"}},
		{"list2 list2 u8", []string{"\x01", "\x01\x01", "\x01\x03\x01\x02\x03", "\x03\x00\x00\x00", "\x01\xfd\x01\x00\x01"}},
		{"vector2 u8", []string{"", "\x01", "\x01\x02\x03", "\x02\x01\x02"}},
		{"vector2 list2 bool", []string{"", "\x00", "\x00\x00\x00", "\x01\x01", "\x01\x02\x00"}},
		{"struct2 u8 bool", []string{"", "\x07", "\x07\x02", "\x07\x01\x00", "\x02\x07\x01"}},
		{"struct2 bytes2 u8", []string{"", "\x00", "\x01a", "\x02ab", "\x03abc\x07", "\x00\x07\x07"}},
		{"option u8", []string{"", "\x00", "\x01", "\x01\x05", "\x02"}},
		{"union2 u8 bool", []string{"", "\x00", "\x00\x05", "\x01\x01"}},
		{"struct1 option u8", []string{"", "\x00", "\x01\x05"}},
		{"list2 option u8", []string{"", "\x00", "\x01\x00", "\x01\x01\x05"}},
		{"list2 union1 u8", []string{"", "\x00", "\x01\x00\x05"}},
	})
}
