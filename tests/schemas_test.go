package tests

import (
	"fmt"
	"math"
	"slices"
	"strings"
	"testing"

	"loop.example/g00774/impl"
)

// behind tells how many types stand behind t, -1 when t is none: the tests'
// own reading of the document's table.
func behind(t impl.Typ) int64 {
	within := func(low, high, parts int64) int64 {
		if t.N < low || t.N > high {
			return -1
		}
		return parts
	}
	switch t.Kind {
	case impl.TyUint:
		if t.N == 8 || t.N == 16 || t.N == 32 || t.N == 64 {
			return 0
		}
	case impl.TyBool:
		return within(0, 0, 0)
	case impl.TyBytes:
		return within(0, 200, 0)
	case impl.TyFixed:
		return within(1, 64, 0)
	case impl.TyList:
		return within(1, 20, 1)
	case impl.TyVector:
		return within(1, 8, 1)
	case impl.TyStruct:
		return within(1, 6, t.N)
	case impl.TyOption:
		return within(0, 0, 1)
	case impl.TyUnion:
		return within(1, 4, t.N)
	}
	return -1
}

// depthsOf goes through s with a stack of how many types each open one still
// wants; false when s is no schema.
func depthsOf(s []impl.Typ) ([]int64, bool) {
	var depths []int64
	open := []int64{1}
	for _, t := range s {
		for len(open) > 0 && open[len(open)-1] == 0 {
			open = open[:len(open)-1]
		}
		parts := behind(t)
		if len(open) == 0 || parts < 0 {
			return nil, false
		}
		depths = append(depths, int64(len(open)-1))
		open[len(open)-1]--
		open = append(open, parts)
	}
	for _, n := range open {
		if n > 0 {
			return nil, false
		}
	}
	return depths, len(s) <= 40 && slices.Max(depths) <= 6
}

func endsOf(depths []int64) []int64 {
	var ends []int64
	for i, d := range depths {
		end := i + 1
		for end < len(depths) && depths[end] > d {
			end++
		}
		ends = append(ends, int64(end))
	}
	return ends
}

func checkNoSchema(t *testing.T, s []impl.Typ) {
	t.Helper()
	if impl.SchemaOk(s) || impl.SchemaText(s) != "" || impl.DepthOf(s) != -1 {
		t.Errorf("%v is a schema: %v, %q, %d", s, impl.SchemaOk(s), impl.SchemaText(s), impl.DepthOf(s))
	}
	for _, at := range []int64{-1, 0, 1, int64(len(s)) - 1, int64(len(s))} {
		if n := impl.EndOf(s, at); n != -1 {
			t.Errorf("%v, which is no schema, has at %d a type that ends at %d", s, at, n)
		}
	}
}

func checkSchema(t *testing.T, s []impl.Typ, depths []int64) {
	t.Helper()
	text := impl.SchemaText(s)
	back, ok := impl.ReadSchema(text)
	if !impl.SchemaOk(s) || text == "" || !ok || !slices.Equal(back, s) {
		t.Fatalf("%v is %v, has text %q and comes back as %v, %v", s, impl.SchemaOk(s), text, back, ok)
	}
	if d := impl.DepthOf(s); d != slices.Max(depths) {
		t.Fatalf("%s lies %d deep", text, d)
	}
	for at, end := range endsOf(depths) {
		if n := impl.EndOf(s, int64(at)); n != end {
			t.Fatalf("%s: the type at %d ends at %d, not %d", text, at, n, end)
		}
		part := s[at:end]
		words := strings.Join(strings.Split(text, " ")[at:end], " ")
		if !impl.SchemaOk(part) || impl.SchemaText(part) != words {
			t.Fatalf("%s: the type at %d, by itself, is %q", text, at, impl.SchemaText(part))
		}
	}
	for _, at := range []int64{math.MinInt64, -1, int64(len(s)), int64(len(s)) + 1, math.MaxInt64} {
		if n := impl.EndOf(s, at); n != -1 {
			t.Fatalf("%s: at %d is no type, but it ends at %d", text, at, n)
		}
	}
}

func check(t *testing.T, s []impl.Typ) {
	t.Helper()
	if depths, ok := depthsOf(s); ok {
		checkSchema(t, s, depths)
	} else {
		checkNoSchema(t, s)
	}
}

func TestSchemasOfFewTypes(t *testing.T) {
	some := []impl.Typ{
		{Kind: impl.TyUint, N: 16}, {Kind: impl.TyBool}, {Kind: impl.TyBytes, N: 7}, {Kind: impl.TyList, N: 2},
		{Kind: impl.TyVector, N: 3}, {Kind: impl.TyStruct, N: 1}, {Kind: impl.TyStruct, N: 2}, {Kind: impl.TyStruct, N: 3},
		{Kind: impl.TyOption}, {Kind: impl.TyUnion, N: 2}, {Kind: impl.TyFixed, N: 5}, {Kind: impl.TyUint, N: 7},
	}
	lists := [][]impl.Typ{nil}
	for range 4 {
		var longer [][]impl.Typ
		for _, s := range lists {
			check(t, s)
			for _, typ := range some {
				longer = append(longer, append(slices.Clone(s), typ))
			}
		}
		lists = longer
	}
	for _, s := range lists {
		check(t, s)
	}
}

// TestSchemasOfManyTypes grows schemas by a fixed rule, some of which are too
// deep or have too many types.
func TestSchemasOfManyTypes(t *testing.T) {
	state := uint64(1)
	next := func(n uint64) int64 {
		state = state*6364136223846793005 + 1442695040888963407
		return int64((state >> 33) % n)
	}
	good := 0
	for range 4000 {
		var s []impl.Typ
		want := int64(1)
		for want > 0 && len(s) < 50 {
			typ := impl.Typ{Kind: 1 + next(9), N: next(7)}
			if next(2) == 0 {
				typ = impl.Typ{Kind: impl.TyUint, N: 8 << next(4)}
			}
			if typ.Kind == impl.TyBool || typ.Kind == impl.TyOption {
				typ.N = 0
			}
			s = append(s, typ)
			want += max(behind(typ), 0) - 1
		}
		check(t, s)
		if impl.SchemaOk(s) {
			good++
		}
	}
	if good < 500 {
		t.Errorf("only %d of these are schemas", good)
	}
}

func TestEachKindAtItsEnds(t *testing.T) {
	for _, r := range []struct {
		kind  int64
		word  string
		parts func(n int64) int64
		good  []int64
		bad   []int64
	}{
		{1, "u", func(int64) int64 { return 0 }, []int64{8, 16, 32, 64}, []int64{0, 1, 7, 9, 15, 17, 24, 31, 33, 63, 65, 128}},
		{3, "bytes", func(int64) int64 { return 0 }, []int64{0, 1, 199, 200}, []int64{-1, 201}},
		{4, "fixed", func(int64) int64 { return 0 }, []int64{1, 2, 63, 64}, []int64{-1, 0, 65}},
		{5, "list", func(int64) int64 { return 1 }, []int64{1, 2, 19, 20}, []int64{-1, 0, 21}},
		{6, "vector", func(int64) int64 { return 1 }, []int64{1, 2, 7, 8}, []int64{-1, 0, 9}},
		{7, "struct", func(n int64) int64 { return n }, []int64{1, 2, 5, 6}, []int64{-1, 0, 7}},
		{9, "union", func(n int64) int64 { return n }, []int64{1, 2, 3, 4}, []int64{-1, 0, 5}},
	} {
		make1 := func(n int64) ([]impl.Typ, string) {
			s, text := []impl.Typ{{Kind: r.kind, N: n}}, fmt.Sprint(r.word, n)
			for range max(r.parts(n), 0) {
				s, text = append(s, impl.Typ{Kind: impl.TyBool}), text+" bool"
			}
			return s, text
		}
		for _, n := range r.good {
			s, text := make1(n)
			back, ok := impl.ReadSchema(text)
			if !impl.SchemaOk(s) || impl.SchemaText(s) != text || !ok || !slices.Equal(back, s) {
				t.Errorf("%s: %v, %q, %v, %v", text, impl.SchemaOk(s), impl.SchemaText(s), back, ok)
			}
		}
		for _, n := range append(r.bad, math.MinInt64, math.MaxInt64) {
			s, text := []impl.Typ{{Kind: r.kind, N: n}}, fmt.Sprint(r.word, n)
			if n > -10 && n < 300 {
				s, text = make1(n)
			}
			checkNoSchema(t, s)
			checkNoText(t, text)
		}
	}
}

func TestKindsWithoutN(t *testing.T) {
	boolean, option := impl.Typ{Kind: 2}, impl.Typ{Kind: 8}
	if impl.SchemaText([]impl.Typ{boolean}) != "bool" || impl.SchemaText([]impl.Typ{option, boolean}) != "option bool" {
		t.Error("bool and option have other texts")
	}
	for _, n := range []int64{math.MinInt64, -1, 1, 2, math.MaxInt64} {
		checkNoSchema(t, []impl.Typ{{Kind: 2, N: n}})
		checkNoSchema(t, []impl.Typ{{Kind: 8, N: n}, boolean})
	}
	for _, kind := range []int64{math.MinInt64, -1, 0, 10, 11, 257, math.MaxInt64} {
		for _, n := range []int64{0, 1, 8} {
			checkNoSchema(t, []impl.Typ{{Kind: kind, N: n}})
			checkNoSchema(t, []impl.Typ{{Kind: kind, N: n}, boolean})
			checkNoSchema(t, []impl.Typ{option, {Kind: kind, N: n}})
		}
	}
}

func checkNoText(t *testing.T, text string) {
	t.Helper()
	if s, ok := impl.ReadSchema(text); ok || len(s) != 0 {
		t.Errorf("%q is read as %v, %v", text, s, ok)
	}
}

func TestSchemasWithMostTypes(t *testing.T) {
	six := "struct6 u8 u16 u32 u64 bool bytes3 "
	text := "struct6 " + strings.Repeat(six, 5) + "struct3 u8 bool fixed9"
	s, ok := impl.ReadSchema(text)
	if !ok || len(s) != 40 {
		t.Fatalf("%d types, %v", len(s), ok)
	}
	check(t, s)
	more := "struct6 " + strings.Repeat(six, 5) + "struct4 u8 bool fixed9 u8"
	checkNoText(t, more)
	one := append(slices.Clone(s), impl.Typ{Kind: impl.TyUint, N: 8})
	one[36].N = 4
	checkNoSchema(t, one)
	checkNoText(t, text+" u8")
	checkNoText(t, strings.Repeat("u8 ", 100)+"u8")
	checkNoText(t, strings.TrimSpace(strings.Repeat("option ", 100000)))
	checkNoSchema(t, slices.Repeat([]impl.Typ{{Kind: impl.TyOption}}, 100000))
}

func TestSchemasOfMostDepth(t *testing.T) {
	for _, wrap := range []string{"option ", "list3 ", "vector2 ", "struct1 ", "union1 "} {
		for _, ahead := range []string{"", "struct2 u8 ", "union3 bool u8 "} {
			deep := int64(min(len(ahead), 1))
			text := ahead + strings.Repeat(wrap, int(6-deep)) + "bytes0"
			s, ok := impl.ReadSchema(text)
			if !ok || impl.DepthOf(s) != 6 {
				t.Errorf("%s: %d, %v", text, impl.DepthOf(s), ok)
			}
			check(t, s)
			checkNoText(t, ahead+strings.Repeat(wrap, int(7-deep))+"bytes0")
			wrapped := slices.Insert(slices.Clone(s), len(s)-1, impl.Typ{Kind: impl.TyOption})
			checkNoSchema(t, wrapped)
		}
	}
	early, ok := impl.ReadSchema("struct3 option vector2 list4 u8 bool u16")
	if !ok || impl.DepthOf(early) != 4 {
		t.Errorf("the deepest type lies %d deep", impl.DepthOf(early))
	}
}

func TestWrongTexts(t *testing.T) {
	for _, text := range []string{
		"", " ", "  ", "u8 ", " u8", "u8  ", "option  bool", "option bool ", " option bool", "option\tbool", "option\nbool", "u8\n", "u8\x00",
		"u", "u08", "u008", "u+8", "u-8", "u 8", "u8.0", "u0x8", "U8", "u8u8", "u8,", "u1_6", "u264", "u18446744073709551624",
		"bool0", "bool1", "Bool", "boolean", "boo", "option0 bool", "option1 bool", "optionbool", "option",
		"bytes", "bytes00", "bytes01", "bytes-0", "bytes-1", "bytes+1", "bytes 1", "bytes201", "bytes00000000000000000",
		"fixed", "fixed01", "fixed0", "list bool", "list01 bool", "list0 bool", "list2", "list2 bool bool", "list99999999999999999999 bool",
		"vector bool", "vector03 bool", "vector3", "vector3 bool bool", "struct bool", "struct02 u8 u8", "struct2 u8", "struct2 u8 u8 u8",
		"struct0", "union0", "union bool", "union01 bool", "union2 u8", "union2 u8 u8 u8", "u8 u8", "bool bool",
		"struct2 list3 u8", "struct2 list3 u8 bool bool", "x", "x1", "8", "uint8", "struct1 x",
	} {
		checkNoText(t, text)
	}
}

func TestSchemaTexts(t *testing.T) {
	for _, r := range []struct {
		text string
		s    []impl.Typ
	}{
		{"u64", []impl.Typ{{Kind: 1, N: 64}}},
		{"bytes0", []impl.Typ{{Kind: 3}}},
		{"struct2 u64 list5 option fixed32", []impl.Typ{{Kind: 7, N: 2}, {Kind: 1, N: 64}, {Kind: 5, N: 5}, {Kind: 8}, {Kind: 4, N: 32}}},
		{"union2 vector8 bool bytes200", []impl.Typ{{Kind: 9, N: 2}, {Kind: 6, N: 8}, {Kind: 2}, {Kind: 3, N: 200}}},
	} {
		s, ok := impl.ReadSchema(r.text)
		if !ok || !slices.Equal(s, r.s) || impl.SchemaText(r.s) != r.text {
			t.Errorf("%s is read as %v, %v, and written as %q", r.text, s, ok, impl.SchemaText(r.s))
		}
	}
}

func TestSchemasAreLeftAlone(t *testing.T) {
	room, _ := impl.ReadSchema("struct2 option u8 list4 bool")
	spare := append(slices.Clone(room), impl.Typ{Kind: 3, N: 5}, impl.Typ{Kind: 4, N: 6})
	kept := slices.Clone(spare)
	s := spare[:len(room)]
	impl.SchemaOk(s)
	impl.SchemaText(s)
	impl.EndOf(s, 1)
	impl.DepthOf(s)
	if !slices.Equal(spare, kept) {
		t.Errorf("%v became %v", kept, spare)
	}
	other, _ := impl.ReadSchema("struct2 option u8 list4 bool")
	other[0].N = 3
	if again, ok := impl.ReadSchema("struct2 option u8 list4 bool"); !ok || !slices.Equal(again, room) {
		t.Errorf("a schema that was read became %v", again)
	}
}
