package tests

import (
	"encoding/hex"
	"fmt"
	"math"
	"math/rand/v2"
	"slices"
	"strings"
	"testing"

	"loop.example/g00774/impl"
)

// A shape is a type and what it is of: the tests' own tree of a schema.
type shape struct {
	typ   impl.Typ
	parts []shape
}

func (sh shape) schema() []impl.Typ {
	s := []impl.Typ{sh.typ}
	for _, part := range sh.parts {
		s = append(s, part.schema()...)
	}
	return s
}

// shapeOf answers the shape of a schema's text.
func shapeOf(t *testing.T, text string) shape {
	t.Helper()
	s := schemaOf(t, text)
	var next func() shape
	next = func() shape {
		sh := shape{typ: s[0]}
		s = s[1:]
		for range behind(sh.typ) {
			sh.parts = append(sh.parts, next())
		}
		return sh
	}
	return next()
}

// under answers the shapes of what stands behind an Item with that N.
func (sh shape) under(n uint64) []shape {
	switch sh.typ.Kind {
	case impl.TyList, impl.TyVector, impl.TyOption:
		return slices.Repeat(sh.parts, int(n))
	case impl.TyStruct:
		return sh.parts
	case impl.TyUnion:
		return sh.parts[n : n+1]
	}
	return nil
}

func randomShape(r *rand.Rand, deep int) shape {
	kind := 1 + r.Int64N(9)
	if deep == 0 {
		kind = 1 + r.Int64N(4)
	}
	most := []int64{0, 4, 0, 200, 64, 20, 8, 6, 0, 4}[kind]
	n := int64(0)
	switch {
	case kind == impl.TyUint:
		n = 8 << r.Int64N(4)
	case kind == impl.TyBytes:
		n = r.Int64N(most + 1)
	case most > 0:
		n = 1 + r.Int64N(most)
	}
	sh := shape{typ: impl.Typ{Kind: kind, N: n}}
	for range max(behind(sh.typ), 0) {
		sh.parts = append(sh.parts, randomShape(r, deep-1))
	}
	return sh
}

func randomItem(r *rand.Rand, typ impl.Typ) impl.Item {
	it := impl.Item{Kind: typ.Kind}
	switch typ.Kind {
	case impl.TyUint:
		it.N = r.Uint64() >> (64 - typ.N) >> r.Int64N(typ.N)
	case impl.TyBool, impl.TyOption:
		it.N = r.Uint64N(2)
	case impl.TyBytes:
		it.S = randomBytes(r, r.Int64N(typ.N+1))
	case impl.TyFixed:
		it.S = randomBytes(r, typ.N)
	case impl.TyList:
		it.N = uint64(r.Int64N(typ.N + 1))
	case impl.TyVector, impl.TyStruct:
		it.N = uint64(typ.N)
	case impl.TyUnion:
		it.N = uint64(r.Int64N(typ.N))
	}
	return it
}

func randomBytes(r *rand.Rand, n int64) string {
	b := make([]byte, n)
	for i := range b {
		b[i] = byte(r.Uint32() >> r.IntN(32))
	}
	return string(b)
}

func randomValue(r *rand.Rand, sh shape) []impl.Item {
	it := randomItem(r, sh.typ)
	v := []impl.Item{it}
	for _, part := range sh.under(it.N) {
		v = append(v, randomValue(r, part)...)
	}
	return v
}

// fits tells whether it may stand where a type stands.
func fits(typ impl.Typ, it impl.Item) bool {
	size, number, limit := int64(len(it.S)), it.N == 0, uint64(typ.N)
	blank := size == 0
	switch typ.Kind {
	case impl.TyUint:
		number = typ.N == 64 || it.N < 1<<typ.N
	case impl.TyBool, impl.TyOption:
		number = it.N < 2
	case impl.TyBytes:
		blank = size <= typ.N
	case impl.TyFixed:
		blank = size == typ.N
	case impl.TyList:
		number = it.N < limit+1
	case impl.TyVector, impl.TyStruct:
		number = it.N == limit
	case impl.TyUnion:
		number = it.N < limit
	}
	return it.Kind == typ.Kind && number && blank
}

// isValue goes through v with the shapes that are still wanted.
func isValue(sh shape, v []impl.Item) bool {
	want := []shape{sh}
	for _, it := range v {
		if len(want) == 0 || !fits(want[0].typ, it) {
			return false
		}
		want = append(slices.Clone(want[0].under(it.N)), want[1:]...)
	}
	return len(want) == 0 && len(v) <= 200
}

// textOf writes the text of v by itself.
func textOf(v []impl.Item) string {
	var words []string
	for _, it := range v {
		switch it.Kind {
		case impl.TyUint:
			words = append(words, fmt.Sprint(it.N))
		case impl.TyBool:
			words = append(words, []string{"f", "t"}[it.N])
		case impl.TyOption:
			words = append(words, []string{"none", "some"}[it.N])
		case impl.TyBytes:
			words = append(words, "b:"+hex.EncodeToString([]byte(it.S)))
		case impl.TyFixed:
			words = append(words, "x:"+hex.EncodeToString([]byte(it.S)))
		default:
			letter := map[int64]string{impl.TyList: "l", impl.TyVector: "v", impl.TyStruct: "s", impl.TyUnion: "c"}[it.Kind]
			words = append(words, fmt.Sprint(letter, it.N))
		}
	}
	return strings.Join(words, " ")
}

func schemaOf(t *testing.T, text string) []impl.Typ {
	t.Helper()
	s, ok := impl.ReadSchema(text)
	if !ok {
		t.Fatalf("%q is no schema", text)
	}
	return s
}

// valueOf reads a text, and holds it against the one that is written of that.
func valueOf(t *testing.T, text string) []impl.Item {
	t.Helper()
	v, ok := impl.ReadValue(text)
	if !ok || impl.ValueText(v) != text || textOf(v) != text {
		t.Fatalf("%q is read as %v, %v, and written as %q", text, v, ok, impl.ValueText(v))
	}
	return v
}

func checkNoValueText(t *testing.T, text string) {
	t.Helper()
	if v, ok := impl.ReadValue(text); ok || len(v) != 0 {
		t.Errorf("%q is read as %v, %v", text, v, ok)
	}
}

// eachRandom hands on values of all schemas.
func eachRandom(do func(r *rand.Rand, sh shape, v []impl.Item)) {
	eachRandomOf(randomShape, do)
}

// eachRandomOf hands on values of shapes grown by a fixed rule.
func eachRandomOf(grow func(r *rand.Rand, deep int) shape, do func(r *rand.Rand, sh shape, v []impl.Item)) {
	r := rand.New(rand.NewPCG(3, 4))
	for range 6000 {
		sh := grow(r, r.IntN(5))
		if len(sh.schema()) > 40 {
			continue
		}
		for range 3 {
			if v := randomValue(r, sh); len(v) <= 300 {
				do(r, sh, v)
			}
		}
	}
}

func TestValuesComeBackFromTheirTexts(t *testing.T) {
	long := 0
	eachRandom(func(_ *rand.Rand, sh shape, v []impl.Item) {
		text := impl.ValueText(v)
		if len(v) > 200 {
			long++
			if text != "" || impl.Typed(sh.schema(), v) {
				t.Fatalf("%d items have text %q", len(v), text)
			}
			checkNoValueText(t, textOf(v))
			return
		}
		back, ok := impl.ReadValue(text)
		if text != textOf(v) || !ok || !slices.Equal(back, v) {
			t.Fatalf("%v has text %q, and comes back as %v, %v", v, text, back, ok)
		}
		if !impl.Typed(sh.schema(), v) {
			t.Fatalf("%s is no value of %s", text, impl.SchemaText(sh.schema()))
		}
	})
	if long == 0 {
		t.Error("no value was too long")
	}
}

// spoil changes one thing in v.
func spoil(r *rand.Rand, v []impl.Item) []impl.Item {
	v = slices.Clone(v)
	i := r.IntN(len(v))
	switch r.IntN(8) {
	case 0:
		v[i].Kind = r.Int64N(12) - 1
	case 1:
		v[i].N++
	case 2:
		v[i].N--
	case 3:
		v[i].N = r.Uint64() >> r.IntN(64)
	case 4:
		v[i].S += "\x00"
	case 5:
		v[i].S = v[i].S[len(v[i].S)/2:]
	case 6:
		v = slices.Delete(v, i, i+1)
	case 7:
		v = slices.Insert(v, i, impl.Item{Kind: 1 + r.Int64N(9), N: r.Uint64N(3)})
	}
	return v
}

func TestSpoiledValues(t *testing.T) {
	good, bad := 0, 0
	eachRandom(func(r *rand.Rand, sh shape, v []impl.Item) {
		s := sh.schema()
		for range 4 {
			other := spoil(r, v)
			is := isValue(sh, other)
			if impl.Typed(s, other) != is {
				t.Fatalf("%v as a value of %s: %v", other, impl.SchemaText(s), !is)
			}
			if is {
				good++
			} else {
				bad++
			}
		}
	})
	if good < 1000 || bad < 1000 {
		t.Errorf("%d values, %d others", good, bad)
	}
}

func TestTypedAtItsEdges(t *testing.T) {
	for _, r := range []struct {
		schema string
		good   []string
		bad    []string
	}{
		{"u8", []string{"0", "1", "255"}, []string{"256", "18446744073709551615", "f", "l0", "0 0", "b:"}},
		{"u16", []string{"0", "255", "256", "65535"}, []string{"65536", "4294967296"}},
		{"u32", []string{"0", "65536", "4294967295"}, []string{"4294967296", "18446744073709551615"}},
		{"u64", []string{"0", "4294967296", "9223372036854775808", "18446744073709551615"}, []string{"t", "none", "1 1"}},
		{"bool", []string{"f", "t"}, []string{"0", "1", "t t", "none"}},
		{"bytes0", []string{"b:"}, []string{"b:00", "x:", "0"}},
		{"bytes2", []string{"b:", "b:00", "b:ff00"}, []string{"b:ff0000", "x:ff00", "b: b:"}},
		{"bytes200", []string{"b:" + strings.Repeat("61", 200)}, []string{"b:" + strings.Repeat("61", 201)}},
		{"fixed1", []string{"x:00", "x:ff"}, []string{"x:", "x:0000", "b:00"}},
		{"fixed64", []string{"x:" + strings.Repeat("0a", 64)}, []string{"x:" + strings.Repeat("0a", 63), "x:" + strings.Repeat("0a", 65), "x:"}},
		{"list3 u8", []string{"l0", "l1 7", "l2 7 8", "l3 7 8 9"}, []string{"l4 7 8 9 9", "l3 7 8", "l2 7 8 9", "l0 7", "l1 t", "v3 7 8 9", "l18446744073709551615 7", "7"}},
		{"vector3 u8", []string{"v3 7 8 9"}, []string{"v2 7 8", "v4 7 8 9 9", "v3 7 8", "v3 7 8 9 9", "v0", "l3 7 8 9", "v3 7 8 256"}},
		{"vector1 bool", []string{"v1 t"}, []string{"v0", "v2 t t", "v1", "t"}},
		{"struct2 u8 bool", []string{"s2 7 t"}, []string{"s1 7", "s3 7 t t", "s2 7", "s2 t 7", "s2 7 t t", "s0", "v2 7 t", "s2 256 t"}},
		{"struct1 u8", []string{"s1 7"}, []string{"s0", "s2 7 7", "s1", "7"}},
		{"option u8", []string{"none", "some 0", "some 255"}, []string{"some", "none 7", "some 7 7", "some 256", "some none", "7", "f"}},
		{"option option u8", []string{"none", "some none", "some some 7"}, []string{"some", "some some", "some 7"}},
		{"union3 u8 bool bytes1", []string{"c0 7", "c1 t", "c2 b:07"}, []string{"c3 7", "c3", "c3 b:07", "c0", "c0 t", "c1 7", "c2 7", "c0 7 7", "c18446744073709551615 7", "7"}},
		{"union1 u8", []string{"c0 7"}, []string{"c1 7", "c1", "c0"}},
		{"list2 struct2 vector2 option u8 union2 bool u8", []string{"l0", "l1 s2 v2 none some 1 c1 4", "l2 s2 v2 none none c0 t s2 v2 some 3 some 4 c1 0"}, []string{"l1 s2 v2 none some 1 c1", "l1 s2 v2 none some c1 4", "l1 s2 v2 none none none c1 4"}},
	} {
		s := schemaOf(t, r.schema)
		for _, text := range r.good {
			if !impl.Typed(s, valueOf(t, text)) {
				t.Errorf("%s is no value of %s", text, r.schema)
			}
		}
		for _, text := range r.bad {
			if impl.Typed(s, valueOf(t, text)) {
				t.Errorf("%s is a value of %s", text, r.schema)
			}
		}
		if impl.Typed(s, nil) {
			t.Errorf("nothing is a value of %s", r.schema)
		}
	}
}

// wrongItems have what is not named for their Kind, or no Kind of a type.
var wrongItems = []impl.Item{
	{Kind: impl.TyUint, N: 1, S: "a"}, {Kind: impl.TyUint, S: "\x00"},
	{Kind: impl.TyBool, S: "a"}, {Kind: impl.TyBool, N: 1, S: "a"}, {Kind: impl.TyBool, N: 2}, {Kind: impl.TyBool, N: math.MaxUint64},
	{Kind: impl.TyBytes, N: 1}, {Kind: impl.TyBytes, N: 1, S: "a"}, {Kind: impl.TyBytes, N: math.MaxUint64, S: "a"},
	{Kind: impl.TyFixed, N: 1}, {Kind: impl.TyFixed, N: 1, S: "a"}, {Kind: impl.TyFixed, N: math.MaxUint64, S: "a"},
	{Kind: impl.TyList, S: "a"}, {Kind: impl.TyVector, N: 1, S: "a"}, {Kind: impl.TyStruct, N: 1, S: "a"},
	{Kind: impl.TyOption, S: "a"}, {Kind: impl.TyOption, N: 1, S: "a"}, {Kind: impl.TyOption, N: 2}, {Kind: impl.TyOption, N: math.MaxUint64},
	{Kind: impl.TyUnion, S: "a"},
	{}, {Kind: 10}, {Kind: 11}, {Kind: -1}, {Kind: 257}, {Kind: math.MinInt64}, {Kind: math.MaxInt64}, {S: "a"}, {N: 1},
}

func TestItemsWithWhatIsNotNamed(t *testing.T) {
	one := impl.Item{Kind: impl.TyUint, N: 1}
	for _, it := range wrongItems {
		for _, v := range [][]impl.Item{{it}, {it, one}, {one, it}} {
			if text := impl.ValueText(v); text != "" {
				t.Errorf("%v has text %q", v, text)
			}
		}
		for _, schema := range []string{"u8", "bool", "bytes1", "fixed1", "list1 u8", "vector1 u8", "struct1 u8", "option u8", "union1 u8", "union4 u8 u8 u8 u8"} {
			s := schemaOf(t, schema)
			if impl.Typed(s, []impl.Item{it}) || impl.Typed(s, []impl.Item{it, one}) || impl.Typed(s, []impl.Item{it, one, one}) {
				t.Errorf("%v begins a value of %s", it, schema)
			}
		}
	}
	if impl.ValueText(nil) != "" || impl.ValueText([]impl.Item{}) != "" {
		t.Error("nothing has a text")
	}
}

func TestSchemasThatAreNoneHaveNoValues(t *testing.T) {
	seven := []impl.Item{{Kind: impl.TyUint, N: 7}}
	for _, s := range [][]impl.Typ{
		nil, {}, {{Kind: 1, N: 7}}, {{Kind: 1, N: 8}, {Kind: 1, N: 8}}, {{Kind: 0, N: 8}}, {{Kind: 10}}, {{Kind: 5, N: 1}}, {{Kind: 8}},
		slices.Repeat([]impl.Typ{{Kind: 7, N: 1}}, 8), slices.Repeat([]impl.Typ{{Kind: 8}}, 100000),
	} {
		for _, v := range [][]impl.Item{nil, seven, {{Kind: 8}}, {{Kind: 5}}, {{Kind: 0}}, {{Kind: 10}}} {
			if impl.Typed(s, v) {
				t.Errorf("%v is a value of %v", v, s)
			}
			for _, w := range wires {
				w.checkUnwritten(t, s, v)
			}
		}
		if z := impl.ZeroOf(s); len(z) != 0 {
			t.Errorf("%v has noughts %v", s, z)
		}
		for _, b := range []string{"", "\x00", "\x07", "\x80", "\xc0", "\xc1\x07"} {
			for _, w := range wires {
				w.checkNone(t, s, b)
			}
		}
		if n := impl.SszSize(s); n != -1 {
			t.Errorf("%v has values of %d bytes", s, n)
		}
	}
}

func TestTextsOfItems(t *testing.T) {
	for _, r := range []struct {
		it   impl.Item
		text string
	}{
		{impl.Item{Kind: 1}, "0"}, {impl.Item{Kind: 1, N: 10}, "10"}, {impl.Item{Kind: 1, N: 9999999999999999}, "9999999999999999"},
		{impl.Item{Kind: 1, N: 10000000000000000}, "10000000000000000"}, {impl.Item{Kind: 1, N: math.MaxInt64}, "9223372036854775807"},
		{impl.Item{Kind: 1, N: 1 << 63}, "9223372036854775808"}, {impl.Item{Kind: 1, N: 9999999999999999999}, "9999999999999999999"},
		{impl.Item{Kind: 1, N: 10000000000000000000}, "10000000000000000000"}, {impl.Item{Kind: 1, N: math.MaxUint64}, "18446744073709551615"},
		{impl.Item{Kind: 2}, "f"}, {impl.Item{Kind: 2, N: 1}, "t"},
		{impl.Item{Kind: 3}, "b:"}, {impl.Item{Kind: 3, S: "\x00\x09\x0a\x0f\x10\x7f\x80\x9f\xa0\xaf\xf9\xff"}, "b:00090a0f107f809fa0aff9ff"},
		{impl.Item{Kind: 4}, "x:"}, {impl.Item{Kind: 4, S: "\x01\xab"}, "x:01ab"}, {impl.Item{Kind: 4, S: strings.Repeat("\xfe", 1000)}, "x:" + strings.Repeat("fe", 1000)},
		{impl.Item{Kind: 5}, "l0"}, {impl.Item{Kind: 5, N: 20}, "l20"}, {impl.Item{Kind: 5, N: math.MaxUint64}, "l18446744073709551615"},
		{impl.Item{Kind: 6}, "v0"}, {impl.Item{Kind: 6, N: 9}, "v9"}, {impl.Item{Kind: 6, N: math.MaxUint64}, "v18446744073709551615"},
		{impl.Item{Kind: 7}, "s0"}, {impl.Item{Kind: 7, N: 7}, "s7"}, {impl.Item{Kind: 7, N: math.MaxUint64}, "s18446744073709551615"},
		{impl.Item{Kind: 8}, "none"}, {impl.Item{Kind: 8, N: 1}, "some"},
		{impl.Item{Kind: 9}, "c0"}, {impl.Item{Kind: 9, N: 4}, "c4"}, {impl.Item{Kind: 9, N: math.MaxUint64}, "c18446744073709551615"},
	} {
		v := []impl.Item{r.it}
		if text := impl.ValueText(v); text != r.text {
			t.Errorf("%v has text %q", v, text)
		}
		if back, ok := impl.ReadValue(r.text); !ok || !slices.Equal(back, v) {
			t.Errorf("%q is read as %v, %v", r.text, back, ok)
		}
		if back, ok := impl.ReadValue(r.text + " " + r.text); !ok || !slices.Equal(back, append(v, v...)) {
			t.Errorf("%q, twice, is read as %v, %v", r.text, back, ok)
		}
	}
}

func TestWrongValueTexts(t *testing.T) {
	words := []string{
		"", " ", "  ", "\n", "\t", "0 ", " 0", "0  0", "0 0 ", " 0 0", "0\t0", "0\n", "0\x00", "0,0", "none ", "some ", " some", "t ", "b: ", " b:", "b: 00", "x: 00",
		"00", "01", "007", "+1", "-0", "-1", "1.0", "1e3", "0x1", "1_0", "٣", "18446744073709551616", "18446744073709551625", "20000000000000000000", "99999999999999999999", "100000000000000000000", "018446744073709551615", "000000000000000000000",
		"F", "T", "ft", "tt", "true", "false", "t1", "f0", "bool",
		"b", "b:0", "b:000", "b:A", "b:AB", "b:aB", "b:Ab", "b:0g", "b:g0", "b:zz", "b:0/", "b:0:", "b:0@", "b:0`", "b:-", "b:é", "B:", "b::", "b:0 0", "b00",
		"x", "x:0", "x:000", "x:AB", "x:aB", "x:Ab", "x:0g", "x:zz", "X:", "x::", "x00", "0x",
		"l", "l01", "l00", "l-1", "l+1", "l 1", "lx", "L1", "l18446744073709551616", "l1l", "ll", "list1",
		"v", "v01", "v00", "v-1", "V1", "v18446744073709551616", "vv",
		"s", "s01", "s00", "s-1", "S1", "s18446744073709551616", "so", "som", "some1", "somes", "Some", "SOME",
		"no", "non", "None", "none0", "nones", "n", "n0", "o", "option",
		"c", "c01", "c00", "c-1", "C1", "c18446744073709551616", "c99999999999999999999",
		"u8", "y", "?", "\xff",
	}
	for _, word := range words {
		checkNoValueText(t, word)
		checkNoValueText(t, "0 "+word)
		checkNoValueText(t, word+" 0")
		checkNoValueText(t, "l1 "+word+" 0")
	}
}

// grown answers a value of list20 list20 and the type of part, of n Items.
func grown(n int, part impl.Item) []impl.Item {
	v := []impl.Item{{Kind: impl.TyList}}
	for len(v) < n {
		v[0].N++
		k := min(20, n-len(v)-1)
		v = append(v, impl.Item{Kind: impl.TyList, N: uint64(k)})
		v = append(v, slices.Repeat([]impl.Item{part}, k)...)
	}
	return v
}

// grownMessage answers a value of struct2 list20 bool list20 struct1 list20
// and the type of part, of n Items, at least three.
func grownMessage(n int, part impl.Item) []impl.Item {
	lists := n - 3
	truths := 0
	if lists%22 == 1 {
		// One Item is too little for a message that has a list.
		truths, lists = 1, lists-1
	}
	v := []impl.Item{{Kind: impl.TyStruct, N: 2}, {Kind: impl.TyList, N: uint64(truths)}}
	v = append(v, slices.Repeat([]impl.Item{{Kind: impl.TyBool, N: 1}}, truths)...)
	v = append(v, impl.Item{Kind: impl.TyList, N: uint64((lists + 21) / 22)})
	for len(v) < n {
		k := min(20, n-len(v)-2)
		v = append(v, impl.Item{Kind: impl.TyStruct, N: 1}, impl.Item{Kind: impl.TyList, N: uint64(k)})
		v = append(v, slices.Repeat([]impl.Item{part}, k)...)
	}
	return v
}

func TestMostItems(t *testing.T) {
	s := schemaOf(t, "list20 list20 u8")
	part := impl.Item{Kind: impl.TyUint, N: 100}
	for n := 1; n <= 200; n++ {
		v := grown(n, part)
		back, ok := impl.ReadValue(textOf(v))
		if len(v) != n || !impl.Typed(s, v) || impl.ValueText(v) != textOf(v) || !ok || !slices.Equal(back, v) {
			t.Fatalf("%d items: %v, %q, %v", n, impl.Typed(s, v), impl.ValueText(v), ok)
		}
	}
	for n := 201; n <= 420; n++ {
		v := grown(n, part)
		if impl.Typed(s, v) || impl.ValueText(v) != "" {
			t.Fatalf("%d items: %v, %q", n, impl.Typed(s, v), impl.ValueText(v))
		}
		checkNoValueText(t, textOf(v))
	}
	many := slices.Repeat([]impl.Item{{Kind: impl.TyUint}}, 200)
	if text := impl.ValueText(many); text != strings.TrimSpace(strings.Repeat("0 ", 200)) {
		t.Errorf("200 noughts are %q", text)
	}
	checkNoValueText(t, strings.Repeat("0 ", 200))
	checkNoValueText(t, strings.Repeat("0 ", 200)+"0")
	checkNoValueText(t, strings.Repeat("0 ", 100000)+"0")
}

// noughts is the value of noughts, as the tests read the document.
func noughts(sh shape) []impl.Item {
	it := impl.Item{Kind: sh.typ.Kind}
	switch it.Kind {
	case impl.TyFixed:
		it.S = string(make([]byte, sh.typ.N))
	case impl.TyVector, impl.TyStruct:
		it.N = uint64(sh.typ.N)
	}
	v := []impl.Item{it}
	if it.Kind == impl.TyOption {
		return v
	}
	for _, part := range sh.under(it.N) {
		v = append(v, noughts(part)...)
	}
	return v
}

func TestNoughts(t *testing.T) {
	some, none := 0, 0
	r := rand.New(rand.NewPCG(5, 6))
	for range 6000 {
		sh := randomShape(r, r.IntN(4))
		for range r.IntN(4) {
			sh = shape{impl.Typ{Kind: impl.TyVector, N: 1 + r.Int64N(8)}, []shape{sh}}
		}
		s := sh.schema()
		if len(s) > 40 {
			continue
		}
		z, want := impl.ZeroOf(s), noughts(sh)
		if len(want) > 200 {
			none++
			if len(z) != 0 {
				t.Fatalf("%s has %d noughts", impl.SchemaText(s), len(z))
			}
			continue
		}
		some++
		if !slices.Equal(z, want) || !impl.Typed(s, z) {
			t.Fatalf("%s has noughts %v, not %v", impl.SchemaText(s), z, want)
		}
	}
	if some < 1000 || none < 100 {
		t.Errorf("%d values of noughts, %d that are too long", some, none)
	}
}

func TestNoughtsAtTheirEdges(t *testing.T) {
	for _, r := range []struct{ schema, text string }{
		{"u8", "0"}, {"u64", "0"}, {"bool", "f"}, {"bytes0", "b:"}, {"bytes200", "b:"}, {"fixed1", "x:00"}, {"fixed3", "x:000000"}, {"fixed64", "x:" + strings.Repeat("00", 64)},
		{"list20 vector8 u8", "l0"}, {"vector1 u8", "v1 0"}, {"vector3 bool", "v3 f f f"}, {"vector2 vector2 fixed1", "v2 v2 x:00 x:00 v2 x:00 x:00"},
		{"struct3 u8 bool bytes4", "s3 0 f b:"}, {"option u8", "none"}, {"option vector8 vector8 vector8 u8", "none"},
		{"union2 bool u8", "c0 f"}, {"union2 u8 vector8 vector8 vector8 u8", "c0 0"}, {"union1 struct2 option u8 fixed2", "c0 s2 none x:0000"},
		{"vector2 union2 struct2 bool u8 u8", "v2 c0 s2 f 0 c0 s2 f 0"},
	} {
		if text := impl.ValueText(impl.ZeroOf(schemaOf(t, r.schema))); text != r.text {
			t.Errorf("the noughts of %s are %q", r.schema, text)
		}
	}
	block := "vector8 vector3 u8 "
	for _, r := range []struct {
		last string
		n    int
	}{{"struct1 " + block, 200}, {"struct1 union1 " + block, 0}, {"vector8 vector3 bool", 199}, {"struct2 vector8 vector3 u8 u8", 0}, {"list20 " + block, 167}} {
		s := schemaOf(t, strings.TrimSpace("struct6 "+strings.Repeat(block, 5)+r.last))
		if z := impl.ZeroOf(s); len(z) != r.n || impl.Typed(s, z) != (r.n > 0) {
			t.Errorf("behind it %s: %d noughts", r.last, len(z))
		}
	}
	for _, text := range []string{
		"vector8 vector8 vector8 vector8 vector8 vector8 u8", "vector8 vector8 vector8 bool", "vector8 vector6 vector4 bool",
		"union2 vector8 vector8 vector8 u8 u8", "struct6 " + strings.TrimSpace(strings.Repeat("vector8 vector8 vector8 vector8 vector8 u8 ", 6)),
	} {
		if z := impl.ZeroOf(schemaOf(t, text)); len(z) != 0 {
			t.Errorf("%s has %d noughts", text, len(z))
		}
	}
}

func TestValuesAreLeftAlone(t *testing.T) {
	for _, r := range []struct{ schema, value, zero string }{
		{"list4 struct2 option u8 fixed2", "l2 s2 none x:0102 s2 some 9 x:0304", "l0"},
		{"struct3 list4 struct2 u8 fixed2 bytes5 list4 u16", "s3 l2 s2 0 x:0102 s2 9 x:0304 b:0506 l2 7 0", "s3 l0 b: l0"},
		{"struct2 option bytes5 list4 option bytes5", "s2 some b:0506 l2 none some b:07", "s2 none l0"},
		{"struct2 option bytes5 bytes5", "s2 some b:0506 b:07", "s2 none b:"},
	} {
		sh := shapeOf(t, r.schema)
		s := append(sh.schema(), impl.Typ{Kind: 3, N: 5})
		v := append(valueOf(t, r.value), impl.Item{Kind: 3, S: "kept"})
		types, items := slices.Clone(s), slices.Clone(v)
		for range 2 {
			checkLeftAlone(t, sh, s[:len(s)-1], v[:len(v)-1])
			if z := impl.ValueText(impl.ZeroOf(s[:len(s)-1])); z != r.zero {
				t.Fatalf("the noughts became %q", z)
			}
		}
		if !slices.Equal(s, types) || !slices.Equal(v, items) {
			t.Errorf("%v became %v, %v became %v", types, s, items, v)
		}
	}
}

// checkLeftAlone calls all functions of values, and clears what they answer.
func checkLeftAlone(t *testing.T, sh shape, s []impl.Typ, v []impl.Item) {
	items := slices.Clone(v)
	impl.Typed(s, v)
	impl.ValueText(v)
	impl.SszSize(s)
	impl.ProtoOk(s)
	impl.BitcoinOk(s)
	for _, w := range wires {
		b, ok := w.enc(s, v)
		back, is := w.dec(s, b)
		if ok != w.admits(sh) || is != ok || ok && !slices.Equal(back, items) {
			t.Fatalf("%s: %q, %v, %v, %v", w.name, b, ok, back, is)
		}
		clear(back)
	}
	clear(impl.ZeroOf(s))
	again, _ := impl.ReadValue("l0")
	clear(again)
}
