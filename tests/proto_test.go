package tests

import (
	"encoding/binary"
	"math/rand/v2"
	"slices"
	"strings"
	"testing"

	"loop.example/g00774/impl"
)

// isMessage is the tests' own reading of ProtoOk.
func isMessage(sh shape) bool {
	for _, field := range sh.parts {
		part := field
		if k := field.typ.Kind; k == impl.TyList || k == impl.TyOption {
			part = field.parts[0]
		}
		if len(part.parts) > 0 && !isMessage(part) {
			return false
		}
	}
	return sh.typ.Kind == impl.TyStruct
}

func structOf(parts ...shape) shape {
	return shape{impl.Typ{Kind: impl.TyStruct, N: int64(len(parts))}, parts}
}

// randomMessage answers a message no type of which lies deeper than that, at
// least 1.
func randomMessage(r *rand.Rand, deep int) shape {
	var fields []shape
	for range 1 + r.IntN(6) {
		fields = append(fields, randomField(r, deep-1))
	}
	return structOf(fields...)
}

func randomField(r *rand.Rand, deep int) shape {
	switch {
	case deep > 0 && r.IntN(4) == 0:
		return shape{impl.Typ{Kind: impl.TyList, N: 1 + r.Int64N(20)}, []shape{randomPart(r, deep-1)}}
	case deep > 0 && r.IntN(3) == 0:
		return shape{impl.Typ{Kind: impl.TyOption}, []shape{randomPart(r, deep-1)}}
	}
	return randomPart(r, deep)
}

func randomPart(r *rand.Rand, deep int) shape {
	if deep > 0 && r.IntN(3) == 0 {
		return randomMessage(r, deep)
	}
	return randomShape(r, 0)
}

// randomMessageOrNot puts, at times, any type where a field stands.
func randomMessageOrNot(r *rand.Rand, deep int) shape {
	sh := randomMessage(r, 2+deep)
	if r.IntN(5) == 0 {
		sh.parts[r.IntN(len(sh.parts))] = randomShape(r, 1+r.IntN(2))
	}
	return sh
}

// long puts how many bytes there are ahead of them.
func long(b []byte) []byte {
	return append(binary.AppendUvarint(nil, uint64(len(b))), b...)
}

// protoOf is the tests' own reading of chapter 7: a message's fields, with
// numbers from 1 on.
func protoOf(sh shape, v []impl.Item) ([]byte, []impl.Item) {
	var b, more []byte
	rest := v[1:]
	for i, field := range sh.parts {
		more, rest = protoField(byte(8*i+8), field, rest)
		b = append(b, more...)
	}
	return b, rest
}

// protoField has a tag for one number, which is two more for what is long.
func protoField(tag byte, sh shape, v []impl.Item) ([]byte, []impl.Item) {
	it, rest := v[0], v[1:]
	var b, more []byte
	switch it.Kind {
	case impl.TyOption:
		if it.N == 0 {
			return nil, rest
		}
		return protoPart(tag, sh.parts[0], rest)
	case impl.TyList:
		if it.N == 0 {
			return nil, rest
		}
		if k := sh.parts[0].typ.Kind; k == impl.TyUint || k == impl.TyBool {
			for _, number := range rest[:it.N] {
				b = binary.AppendUvarint(b, number.N)
			}
			return append([]byte{tag + 2}, long(b)...), rest[it.N:]
		}
		for range it.N {
			more, rest = protoPart(tag, sh.parts[0], rest)
			b = append(b, more...)
		}
		return b, rest
	case impl.TyUint, impl.TyBool, impl.TyBytes:
		if it == (impl.Item{Kind: it.Kind}) {
			return nil, rest
		}
	}
	return protoPart(tag, sh, v)
}

func protoPart(tag byte, sh shape, v []impl.Item) ([]byte, []impl.Item) {
	switch it := v[0]; it.Kind {
	case impl.TyUint, impl.TyBool:
		return binary.AppendUvarint([]byte{tag}, it.N), v[1:]
	case impl.TyBytes, impl.TyFixed:
		return append([]byte{tag + 2}, long([]byte(it.S))...), v[1:]
	}
	b, rest := protoOf(sh, v)
	return append([]byte{tag + 2}, long(b)...), rest
}

func checkProtoOk(t *testing.T, s []impl.Typ, want bool) {
	t.Helper()
	if ok := impl.ProtoOk(s); ok != want {
		t.Errorf("ProtoOk of %s is %v", impl.SchemaText(s), ok)
	}
}

func TestProtoOk(t *testing.T) {
	fields := []struct {
		text string
		ok   bool
	}{
		{"u8", true}, {"u16", true}, {"u32", true}, {"u64", true}, {"bool", true}, {"bytes0", true}, {"bytes200", true}, {"fixed1", true}, {"fixed64", true}, {"struct1 u8", true}, {"struct2 u8 struct1 bool", true},
		{"list1 u8", true}, {"list20 bool", true}, {"list3 bytes3", true}, {"list3 fixed3", true}, {"list3 struct1 u8", true},
		{"option u64", true}, {"option bool", true}, {"option bytes3", true}, {"option fixed3", true}, {"option struct1 u8", true},
		{"vector1 u8", false}, {"vector8 bytes3", false}, {"vector2 struct1 u8", false}, {"union1 u8", false}, {"union2 u8 struct1 u8", false},
		{"list2 list2 u8", false}, {"list2 vector2 u8", false}, {"list2 option u8", false}, {"list2 union1 u8", false}, {"list2 option struct1 u8", false},
		{"option option u8", false}, {"option list2 u8", false}, {"option vector2 u8", false}, {"option union1 u8", false},
	}
	for _, f := range fields {
		for _, form := range []string{
			"struct1 F", "struct2 u8 F", "struct2 F u8", "struct3 fixed2 F bool", "struct6 u8 u8 u8 u8 u8 F",
			"struct1 struct1 F", "struct2 u8 struct2 F u8", "struct1 list3 struct1 F", "struct1 option struct2 bool F", "struct1 struct1 struct1 F", "struct2 option struct1 F list2 struct1 u8",
		} {
			text := strings.Replace(form, "F", f.text, 1)
			checkProtoOk(t, schemaOf(t, text), f.ok)
		}
		// What is no struct is no message, though it be a field of one.
		first := schemaOf(t, f.text)
		checkProtoOk(t, first, first[0].Kind == impl.TyStruct)
	}
	for _, text := range []string{"list2 struct1 u8", "option struct1 u8", "vector1 struct1 u8", "union1 struct1 u8", "list2 u8", "option u8"} {
		s := schemaOf(t, text)
		checkProtoOk(t, s, false)
		wireOf("proto3").checkNotAdmitted(t, s, impl.ZeroOf(s))
	}
	for _, s := range [][]impl.Typ{nil, {}, {{Kind: 7, N: 1}}, {{Kind: 7}}, {{Kind: 7, N: 1}, {Kind: 1, N: 7}}, {{Kind: 7, N: 1}, {Kind: 1, N: 8}, {Kind: 1, N: 8}}, {{Kind: 7, N: 2}, {Kind: 1, N: 8}}, {{Kind: 7, N: 7}}, slices.Repeat([]impl.Typ{{Kind: 7, N: 1}}, 100000)} {
		checkProtoOk(t, s, false)
	}
}

func TestProtoOkOfManySchemas(t *testing.T) {
	r := rand.New(rand.NewPCG(7, 8))
	good, bad := 0, 0
	for range 6000 {
		sh := randomMessageOrNot(r, r.IntN(5))
		if r.IntN(3) == 0 {
			sh = randomShape(r, r.IntN(4))
		}
		ok := isMessage(sh) && len(sh.schema()) <= 40
		checkProtoOk(t, sh.schema(), ok)
		if ok {
			good++
		} else {
			bad++
		}
	}
	if good < 1000 || bad < 1000 {
		t.Errorf("%d messages, %d others", good, bad)
	}
}

func TestProtoOfEachKind(t *testing.T) {
	w := wireOf("proto3")
	for _, r := range []struct{ schema, value, b string }{
		{"struct1 u8", "s1 0", ""}, {"struct1 u8", "s1 1", "\x08\x01"}, {"struct1 u8", "s1 127", "\x08\x7f"}, {"struct1 u8", "s1 128", "\x08\x80\x01"}, {"struct1 u8", "s1 255", "\x08\xff\x01"},
		{"struct1 u16", "s1 0", ""}, {"struct1 u16", "s1 300", "\x08\xac\x02"}, {"struct1 u16", "s1 65535", "\x08\xff\xff\x03"},
		{"struct1 u32", "s1 0", ""}, {"struct1 u32", "s1 4294967295", "\x08\xff\xff\xff\xff\x0f"},
		{"struct1 u64", "s1 0", ""}, {"struct1 u64", "s1 1", "\x08\x01"}, {"struct1 u64", "s1 9223372036854775808", "\x08\x80\x80\x80\x80\x80\x80\x80\x80\x80\x01"}, {"struct1 u64", "s1 18446744073709551615", "\x08\xff\xff\xff\xff\xff\xff\xff\xff\xff\x01"},
		{"struct1 bool", "s1 f", ""}, {"struct1 bool", "s1 t", "\x08\x01"},
		{"struct1 bytes0", "s1 b:", ""}, {"struct1 bytes3", "s1 b:", ""}, {"struct1 bytes3", "s1 b:00", "\x0a\x01\x00"}, {"struct1 bytes3", "s1 b:616263", "\x0a\x03abc"},
		{"struct1 fixed1", "s1 x:00", "\x0a\x01\x00"}, {"struct1 fixed3", "s1 x:616263", "\x0a\x03abc"},
		{"struct1 struct1 u8", "s1 s1 0", "\x0a\x00"}, {"struct1 struct1 u8", "s1 s1 7", "\x0a\x02\x08\x07"}, {"struct1 struct2 u8 bytes3", "s1 s2 0 b:61", "\x0a\x03\x12\x01a"},
		{"struct1 struct1 struct1 u8", "s1 s1 s1 0", "\x0a\x02\x0a\x00"}, {"struct1 struct1 fixed1", "s1 s1 x:61", "\x0a\x03\x0a\x01a"}, {"struct1 struct1 struct1 struct1 struct1 struct1 u8", "s1 s1 s1 s1 s1 s1 0", "\x0a\x08\x0a\x06\x0a\x04\x0a\x02\x0a\x00"},
		{"struct1 list3 u16", "s1 l0", ""}, {"struct1 list3 u16", "s1 l1 0", "\x0a\x01\x00"}, {"struct1 list3 u16", "s1 l1 300", "\x0a\x02\xac\x02"}, {"struct1 list3 u16", "s1 l3 0 1 300", "\x0a\x04\x00\x01\xac\x02"}, {"struct1 list3 u16", "s1 l3 0 0 0", "\x0a\x03\x00\x00\x00"},
		{"struct1 list2 u64", "s1 l2 18446744073709551615 1", "\x0a\x0b\xff\xff\xff\xff\xff\xff\xff\xff\xff\x01\x01"},
		{"struct1 list3 bool", "s1 l0", ""}, {"struct1 list3 bool", "s1 l1 f", "\x0a\x01\x00"}, {"struct1 list3 bool", "s1 l3 t f t", "\x0a\x03\x01\x00\x01"},
		{"struct1 list3 bytes3", "s1 l0", ""}, {"struct1 list3 bytes3", "s1 l1 b:", "\x0a\x00"}, {"struct1 list3 bytes3", "s1 l3 b: b:61 b:", "\x0a\x00\x0a\x01a\x0a\x00"}, {"struct1 list3 bytes0", "s1 l3 b: b: b:", "\x0a\x00\x0a\x00\x0a\x00"},
		{"struct1 list3 fixed2", "s1 l0", ""}, {"struct1 list3 fixed2", "s1 l1 x:0000", "\x0a\x02\x00\x00"}, {"struct1 list2 fixed2", "s1 l2 x:6162 x:6364", "\x0a\x02ab\x0a\x02cd"},
		{"struct1 list3 struct1 u8", "s1 l0", ""}, {"struct1 list3 struct1 u8", "s1 l1 s1 0", "\x0a\x00"}, {"struct1 list3 struct1 u8", "s1 l3 s1 0 s1 7 s1 0", "\x0a\x00\x0a\x02\x08\x07\x0a\x00"},
		{"struct1 option u8", "s1 none", ""}, {"struct1 option u8", "s1 some 0", "\x08\x00"}, {"struct1 option u8", "s1 some 200", "\x08\xc8\x01"}, {"struct1 option bool", "s1 some f", "\x08\x00"}, {"struct1 option bool", "s1 some t", "\x08\x01"},
		{"struct1 option bytes3", "s1 none", ""}, {"struct1 option bytes3", "s1 some b:", "\x0a\x00"}, {"struct1 option bytes0", "s1 some b:", "\x0a\x00"}, {"struct1 option bytes3", "s1 some b:61", "\x0a\x01a"},
		{"struct1 option fixed2", "s1 none", ""}, {"struct1 option fixed2", "s1 some x:0000", "\x0a\x02\x00\x00"},
		{"struct1 option struct1 u8", "s1 none", ""}, {"struct1 option struct1 u8", "s1 some s1 0", "\x0a\x00"}, {"struct1 option struct1 u8", "s1 some s1 7", "\x0a\x02\x08\x07"}, {"struct1 option struct1 option u8", "s1 some s1 none", "\x0a\x00"}, {"struct1 option struct1 option u8", "s1 some s1 some 0", "\x0a\x02\x08\x00"},
		{"struct6 u8 bool bytes3 fixed1 list3 u8 option u8", "s6 0 f b: x:00 l0 none", "\x22\x01\x00"}, {"struct6 u8 bool bytes3 fixed1 list3 u8 option u8", "s6 7 t b:61 x:62 l2 8 9 some 0", "\x08\x07\x10\x01\x1a\x01a\x22\x01b\x2a\x02\x08\x09\x30\x00"},
		{"struct6 u8 u8 u8 u8 u8 u8", "s6 1 2 3 4 5 6", "\x08\x01\x10\x02\x18\x03\x20\x04\x28\x05\x30\x06"}, {"struct6 u8 u8 u8 u8 u8 u8", "s6 0 0 0 0 0 6", "\x30\x06"},
		{"struct6 u8 u8 u8 u8 u8 bytes1", "s6 0 0 0 0 0 b:61", "\x32\x01a"}, {"struct6 u8 u8 u8 u8 u8 struct1 u8", "s6 1 0 0 0 0 s1 0", "\x08\x01\x32\x00"}, {"struct6 fixed1 u8 u8 u8 u8 list2 bytes1", "s6 x:61 0 0 0 0 l2 b: b:", "\x0a\x01a\x32\x00\x32\x00"},
		{"struct2 list2 bytes1 list2 bytes1", "s2 l1 b:61 l2 b: b:62", "\x0a\x01a\x12\x00\x12\x01b"}, {"struct2 option u8 u8", "s2 none 7", "\x10\x07"}, {"struct2 struct1 u8 struct1 u8", "s2 s1 0 s1 7", "\x0a\x00\x12\x02\x08\x07"},
	} {
		s := schemaOf(t, r.schema)
		w.check(t, s, valueOf(t, r.value), r.b)
		w.checkEnds(t, s, r.b)
		for _, more := range []string{"\x08\x01", "\x0a\x00", "\x0a\x01a", "\x32\x00", "\x38\x01", "\x3a\x00", "\x3a\x01a"} {
			w.again(t, s, r.b+more)
			w.again(t, s, more+r.b)
		}
	}
}

func TestProtoOfMostParts(t *testing.T) {
	w := wireOf("proto3")
	one := impl.Item{Kind: impl.TyStruct, N: 1}
	for n := 1; n < 22; n++ {
		count := impl.Item{Kind: impl.TyList, N: uint64(n)}
		for _, r := range []struct {
			schema string
			parts  []impl.Item
			b      string
		}{
			{"u8", []impl.Item{{Kind: impl.TyUint, N: 5}}, "\x0a" + string([]byte{byte(n)}) + strings.Repeat("\x05", n)},
			{"bool", []impl.Item{{Kind: impl.TyBool}}, "\x0a" + string([]byte{byte(n)}) + strings.Repeat("\x00", n)},
			{"bytes0", []impl.Item{{Kind: impl.TyBytes}}, strings.Repeat("\x0a\x00", n)},
			{"fixed1", []impl.Item{{Kind: impl.TyFixed, S: "a"}}, strings.Repeat("\x0a\x01a", n)},
			{"struct1 u8", []impl.Item{one, {Kind: impl.TyUint}}, strings.Repeat("\x0a\x00", n)},
		} {
			s := schemaOf(t, "struct1 list20 "+r.schema)
			v := append([]impl.Item{one, count}, slices.Repeat(r.parts, n)...)
			if n <= 20 {
				w.check(t, s, v, r.b)
				w.checkEnds(t, s, r.b)
				continue
			}
			w.checkNone(t, s, r.b)
			w.checkUnwritten(t, s, v)
		}
	}
	for _, r := range []struct {
		n    int
		head string
	}{{1, "\x01"}, {126, "\x7e"}, {127, "\x7f"}, {128, "\x80\x01"}, {199, "\xc7\x01"}, {200, "\xc8\x01"}, {201, "\xc9\x01"}} {
		text := strings.Repeat("z", r.n)
		v := []impl.Item{one, {Kind: impl.TyBytes, S: text}}
		if r.n > 200 {
			w.checkNone(t, schemaOf(t, "struct1 bytes200"), "\x0a"+r.head+text)
			w.checkUnwritten(t, schemaOf(t, "struct1 bytes200"), v)
			continue
		}
		w.check(t, schemaOf(t, "struct1 bytes200"), v, "\x0a"+r.head+text)
		w.checkEnds(t, schemaOf(t, "struct1 bytes200"), "\x0a"+r.head+text)
	}
	// A message of 128 bytes, and one of 127.
	w.check(t, schemaOf(t, "struct1 struct1 bytes200"), []impl.Item{one, one, {Kind: impl.TyBytes, S: strings.Repeat("z", 126)}}, "\x0a\x80\x01\x0a\x7e"+strings.Repeat("z", 126))
	w.check(t, schemaOf(t, "struct1 struct1 bytes200"), []impl.Item{one, one, {Kind: impl.TyBytes, S: strings.Repeat("z", 125)}}, "\x0a\x7f\x0a\x7d"+strings.Repeat("z", 125))
}

// withOption puts an option behind the last field of the message sh, and
// one that is none into v; false when the message has no room.
func withOption(r *rand.Rand, sh shape, v []impl.Item) (shape, []impl.Item, bool) {
	option := shape{impl.Typ{Kind: impl.TyOption}, []shape{randomShape(r, 0)}}
	if len(sh.parts) == 6 {
		return shape{}, nil, false
	}
	longer := structOf(append(slices.Clone(sh.parts), option)...)
	v = append(slices.Clone(v), impl.Item{Kind: impl.TyOption})
	v[0].N++
	return longer, v, true
}

func TestAnOptionThatIsNoneChangesNothing(t *testing.T) {
	t.Parallel()
	w := wireOf("proto3")
	count := 0
	eachRandomOf(randomMessageOrNot, func(r *rand.Rand, sh shape, v []impl.Item) {
		longer, more, ok := withOption(r, sh, v)
		if !ok || !isMessage(sh) || len(longer.schema()) > 40 || len(more) > 200 {
			return
		}
		count++
		b, ok := impl.ProtoEnc(sh.schema(), v)
		if !ok {
			t.Fatalf("%v is no value of %s", v, impl.SchemaText(sh.schema()))
		}
		w.check(t, longer.schema(), more, b)
		// The same within another message, whose own fields stand around it.
		around := structOf(shape{typ: impl.Typ{Kind: impl.TyBool}}, sh, shape{typ: impl.Typ{Kind: impl.TyBool}})
		ahead, last := []impl.Item{{Kind: impl.TyStruct, N: 3}, {Kind: impl.TyBool, N: 1}}, impl.Item{Kind: impl.TyBool, N: 1}
		inner, ok := impl.ProtoEnc(around.schema(), slices.Concat(ahead, v, []impl.Item{last}))
		around.parts[1] = longer
		if !ok || len(around.schema()) > 40 || len(more) > 197 {
			return
		}
		w.check(t, around.schema(), slices.Concat(ahead, more, []impl.Item{last}), inner)
	})
	if count < 1000 {
		t.Errorf("%d messages only", count)
	}
}

// fewProto has all bytes up to two, and some of three: four first ones, any
// second one, ten last ones.
func fewProto() []string {
	list := []string{""}
	for n := range 256 {
		list = append(list, string([]byte{byte(n)}))
	}
	for n := range 65536 {
		list = append(list, string([]byte{byte(n >> 8), byte(n)}))
	}
	for _, first := range []byte{8, 10, 16, 18} {
		for second := range 256 {
			for _, third := range []byte{0, 1, 2, 8, 10, 16, 18, 127, 128, 255} {
				list = append(list, string([]byte{first, byte(second), third}))
			}
		}
	}
	return list
}

func TestProtoOfFewBytes(t *testing.T) {
	t.Parallel()
	few := fewProto()
	for _, r := range []struct {
		schema string
		counts [4]int
	}{
		{"struct1 u8", [4]int{1, 0, 127, 128}},
		{"struct1 u64", [4]int{1, 0, 127, 128 * 7}},
		{"struct1 bool", [4]int{1, 0, 1, 0}},
		{"struct1 bytes0", [4]int{1, 0, 0, 0}},
		{"struct1 bytes2", [4]int{1, 0, 0, 10}},
		{"struct1 fixed1", [4]int{0, 0, 0, 10}},
		{"struct1 fixed2", [4]int{}},
		{"struct1 struct1 u8", [4]int{0, 0, 1, 0}},
		{"struct1 struct1 fixed1", [4]int{}},
		{"struct1 list2 u8", [4]int{1, 0, 0, 8}},
		{"struct1 list2 bool", [4]int{1, 0, 0, 2}},
		{"struct1 list3 bytes1", [4]int{1, 0, 1, 10}},
		{"struct1 list3 fixed1", [4]int{1, 0, 0, 10}},
		{"struct1 list2 struct1 u8", [4]int{1, 0, 1, 0}},
		{"struct1 option u8", [4]int{1, 0, 128, 128}},
		{"struct1 option bool", [4]int{1, 0, 2, 0}},
		{"struct1 option bytes1", [4]int{1, 0, 1, 10}},
		{"struct1 option fixed1", [4]int{1, 0, 0, 10}},
		{"struct1 option struct1 bool", [4]int{1, 0, 1, 0}},
		{"struct2 u8 u8", [4]int{1, 0, 127 + 127, 128 + 128}},
		{"struct2 bytes1 bool", [4]int{1, 0, 1, 10}},
		{"struct2 option bool fixed1", [4]int{0, 0, 0, 10}},
		{"struct2 struct1 u8 u8", [4]int{0, 0, 1, 0}},
		{"u8", [4]int{}},
		{"option struct1 u8", [4]int{}},
		{"struct1 vector1 u8", [4]int{}},
	} {
		wireOf("proto3").checkCounts(t, few, r.schema, r.counts)
	}
}

func TestWrongProto(t *testing.T) {
	wireOf("proto3").checkWrong(t, []wrong{
		{"struct1 u8", []string{"\x08", "\x08\x00", "\x08\x80\x00", "\x08\x81\x00", "\x08\x80\x02", "\x08\xff\x03", "\x08\x01\x08\x01", "\x08\x01\x00", "\x10\x01", "\x08\x01\x10\x01", "\x0a\x01\x01", "\x0a\x00", "\x09\x01", "\x0d\x01", "\x00\x01", "\x88\x00\x01", "\x88\x80\x00\x01", "\x00", "\x01", "\x80", "\x02\x00", "\x08\xff\xff\xff\xff\xff\xff\xff\xff\xff\x01"}},
		{"struct1 u16", []string{"\x08\x80\x80\x04", "\x08\xff\xff\x07", "\x08\xff\xff\x83\x00", "\x08\x80\x80"}},
		{"struct1 u32", []string{"\x08\x80\x80\x80\x80\x10", "\x08\xff\xff\xff\xff\x1f"}},
		{"struct1 u64", []string{"\x08\x80\x80\x80\x80\x80\x80\x80\x80\x80\x02", "\x08\xff\xff\xff\xff\xff\xff\xff\xff\xff\x03", "\x08\xff\xff\xff\xff\xff\xff\xff\xff\xff\x81\x00", "\x08\xff\xff\xff\xff\xff\xff\xff\xff\xff", "\x08\x80\x80\x80\x80\x80\x80\x80\x80\x80\x80\x01"}},
		{"struct1 bool", []string{"\x08", "\x08\x00", "\x08\x02", "\x08\x7f", "\x08\x81\x00", "\x08\x80\x01", "\x0a\x01\x01", "\x08\x01\x08\x01"}},
		{"struct1 bytes0", []string{"\x0a\x00", "\x0a\x01a", "\x0a", "\x08\x00"}},
		{"struct1 bytes2", []string{"\x0a", "\x0a\x00", "\x0a\x01", "\x0a\x02a", "\x0a\x03abc", "\x0a\x80\x00", "\x0a\x81\x00a", "\x0a\x01ab", "\x0a\x02abc", "\x08\x01", "\x08\x01a", "\x09\x01a", "\x0b\x01a", "\x0a\x01a\x0a\x01a", "\x12\x01a", "\x0a\xff\xff\xff\xff\xff\xff\xff\xff\xff\x01a", "\x0a\x81\x80\x80\x80\x80\x80\x80\x80\x80\x01a", "\x0a\x82\x80\x80\x80\x10ab"}},
		{"struct1 fixed2", []string{"", "\x0a", "\x0a\x00", "\x0a\x01a", "\x0a\x02a", "\x0a\x03abc", "\x0a\x82\x00ab", "\x0a\x02ab\x0a\x02ab", "\x08\x01", "\x12\x02ab"}},
		{"struct2 fixed1 fixed1", []string{"", "\x0a\x01a", "\x12\x01a", "\x12\x01a\x0a\x01a", "\x0a\x01a\x0a\x01a", "\x0a\x01a\x12\x01a\x12\x01a", "\x0a\x01a\x12\x01a\x1a\x01a"}},
		{"struct1 struct1 u8", []string{"", "\x0a", "\x0a\x01", "\x0a\x01\x08", "\x0a\x02\x08\x00", "\x0a\x02\x08", "\x0a\x01\x08\x01", "\x0a\x03\x08\x01", "\x0a\x02\x10\x01", "\x0a\x04\x08\x01\x08\x01", "\x0a\x02\x08\x01\x0a\x02\x08\x01", "\x0a\x00\x0a\x00", "\x08\x01", "\x12\x00", "\x0a\x80\x00", "\x0a\x82\x00\x08\x01", "\x0a\x00\x08\x01"}},
		{"struct1 struct1 fixed1", []string{"", "\x0a\x00", "\x0a\x02\x0a\x00", "\x0a\x01a", "\x0a\x03\x0a\x01", "\x0a\x02\x0a\x01a", "\x0a\x04\x0a\x01aa"}},
		{"struct1 struct1 struct1 u8", []string{"", "\x0a\x00", "\x0a\x02\x0a\x01", "\x0a\x01\x0a\x00", "\x0a\x02\x12\x00"}},
		{"struct1 list2 u8", []string{"\x0a", "\x0a\x00", "\x0a\x01", "\x0a\x01\x80", "\x0a\x02\x80\x00", "\x0a\x02\x80\x02", "\x0a\x02\x01", "\x0a\x03\x01\x02\x03", "\x0a\x01\x01\x0a\x01\x02", "\x08\x01", "\x08\x01\x08\x02", "\x0a\x81\x00\x01", "\x0a\x01\x01\x02", "\x12\x01\x01", "\x0a\x03\x80\x01\x80"}},
		{"struct1 list1 u8", []string{"\x0a\x02\x01\x02", "\x0a\x02\x00\x00", "\x0a\x00"}},
		{"struct1 list2 bool", []string{"\x0a\x00", "\x0a\x01\x02", "\x0a\x02\x01\x02", "\x0a\x02\x02\x01", "\x0a\x03\x01\x01\x01", "\x0a\x02\x81\x00", "\x08\x01"}},
		{"struct1 list2 bytes1", []string{"\x0a", "\x0a\x01", "\x0a\x02ab", "\x0a\x00\x0a", "\x0a\x00\x0a\x01", "\x0a\x00\x0a\x00\x0a\x00", "\x0a\x01a\x0a\x02ab", "\x08\x01", "\x0a\x80\x00", "\x0a\x01a\x12\x00", "\x12\x00"}},
		{"struct1 list2 fixed1", []string{"\x0a\x00", "\x0a\x01a\x0a\x00", "\x0a\x02ab", "\x0a\x01a\x0a\x01a\x0a\x01a"}},
		{"struct1 list2 struct1 fixed1", []string{"\x0a\x00", "\x0a\x03\x0a\x01a\x0a\x00", "\x0a\x00\x0a\x03\x0a\x01a", "\x0a\x03\x0a\x01a\x0a\x03\x0a\x01a\x0a\x03\x0a\x01a", "\x0a\x03\x0a\x01a\x0a\x02\x08\x01"}},
		{"struct2 list2 bytes1 list2 bytes1", []string{"\x12\x00\x0a\x00", "\x0a\x00\x12\x00\x0a\x00", "\x0a\x00\x0a\x00\x0a\x00\x12\x00", "\x0a\x00\x12\x00\x12\x00\x12\x00", "\x12\x00\x12\x00\x1a\x00"}},
		{"struct1 option u8", []string{"\x08", "\x08\x80\x00", "\x08\x80\x02", "\x08\x00\x08\x00", "\x0a\x00", "\x0a\x01\x01", "\x10\x00", "\x08\x01\x00"}},
		{"struct1 option bool", []string{"\x08\x02", "\x08\x80\x00", "\x08\x00\x08\x01"}},
		{"struct1 option bytes1", []string{"\x0a", "\x0a\x01", "\x0a\x02ab", "\x0a\x00\x0a\x00", "\x08\x00", "\x12\x00"}},
		{"struct1 option fixed1", []string{"\x0a\x00", "\x0a\x02ab", "\x0a\x01a\x0a\x01a"}},
		{"struct1 option struct1 fixed1", []string{"\x0a\x00", "\x0a\x02\x0a\x00", "\x0a\x03\x0a\x01a\x0a\x03\x0a\x01a"}},
		{"struct1 option struct1 u8", []string{"\x0a\x02\x08\x00", "\x0a\x00\x0a\x00", "\x0a\x01\x00"}},
		{"struct2 u8 u8", []string{"\x10\x01\x08\x01", "\x08\x01\x08\x01", "\x08\x01\x10\x01\x10\x01", "\x10\x01\x10\x01", "\x18\x01", "\x08\x01\x18\x01", "\x08\x00\x10\x01", "\x08\x01\x10\x00", "\x08\x01\x10", "\x08\x10\x01"}},
		{"struct2 option struct1 fixed1 option u8", []string{"\x0a\x00", "\x0a\x00\x10\x00", "\x10\x00\x0a\x03\x0a\x01a"}},
		{"struct2 u8 struct1 u8", []string{"", "\x08\x01", "\x12\x00\x08\x01", "\x12\x02\x08\x00", "\x08\x00\x12\x00"}},
		{"struct6 u8 u8 u8 u8 u8 u8", []string{"\x38\x01", "\x30\x00", "\x28\x01\x20\x01", "\x32\x01\x01", "\x08\x01\x10\x01\x18\x01\x20\x01\x28\x01\x30\x01\x38\x01", "\xb0\x00\x01"}},
		{"struct6 u8 u8 u8 u8 u8 fixed1", []string{"", "\x32", "\x32\x00", "\x30\x01", "\x3a\x01a", "\x32\x01a\x3a\x01a", "\x32\x01a\x28\x01", "\xb2\x00\x01a"}},
	})
}
