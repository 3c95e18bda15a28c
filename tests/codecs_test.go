package tests

import (
	"math"
	"math/rand/v2"
	"slices"
	"strings"
	"testing"
	"unsafe"

	"loop.example/g00774/impl"
)

// noFormats are numbers of no format.
var noFormats = []int64{0, 6, 7, -1, -5, 256 + 1, 1<<32 + 2, math.MinInt64, math.MaxInt64}

// noLimits are numbers that are no limit.
var noLimits = []int64{-1, -2, 10001, 10002, 1 << 32, math.MinInt64, math.MaxInt64}

// eachFormat asks all formats at once, with their numbers.
func eachFormat(t *testing.T, ask func(t *testing.T, format int64, w wire)) {
	eachWire(t, func(t *testing.T, w wire) {
		at := slices.IndexFunc(wires, func(other wire) bool { return other.name == w.name })
		ask(t, int64(at+1), w)
	})
}

func checkEncode(t *testing.T, format int64, s []impl.Typ, v []impl.Item, limit int64, want string, code int64) {
	t.Helper()
	if b, k := impl.Encode(format, s, v, limit); k != code || b != want {
		t.Fatalf("format %d of %s, limit %d: %v is written as %q, %d, not %q, %d", format, impl.SchemaText(s), limit, v, b, k, want, code)
	}
}

func checkDecode(t *testing.T, format int64, s []impl.Typ, b string, limit int64, want []impl.Item, code int64) {
	t.Helper()
	if v, k := impl.Decode(format, s, b, limit); k != code || !slices.Equal(v, want) {
		t.Fatalf("format %d of %s, limit %d: %q is read as %v, %d, not %v, %d", format, impl.SchemaText(s), limit, b, v, k, want, code)
	}
}

func checkRecode(t *testing.T, from, to int64, s []impl.Typ, b string, limit int64, want string, code int64) {
	t.Helper()
	if other, k := impl.Recode(from, to, s, b, limit); k != code || other != want {
		t.Fatalf("format %d into %d of %s, limit %d: %q becomes %q, %d, not %q, %d", from, to, impl.SchemaText(s), limit, b, other, k, want, code)
	}
}

func checkAdmits(t *testing.T, format int64, s []impl.Typ, want bool) {
	t.Helper()
	if ok := impl.Admits(format, s); ok != want {
		t.Fatalf("format %d admits %v: %v", format, s, ok)
	}
}

// checkNotOfFormat asks all calls with a format that has no values of s, with
// bytes and limits that would be told of by another code.
func checkNotOfFormat(t *testing.T, format int64, s []impl.Typ, v []impl.Item) {
	t.Helper()
	checkAdmits(t, format, s, false)
	for _, limit := range []int64{-1, 0, 1, 10000, 10001} {
		checkEncode(t, format, s, v, limit, "", impl.CdType)
		for _, b := range []string{"", "\x00", "\x08\x01", "\xc0", strings.Repeat("\xff", 20)} {
			checkDecode(t, format, s, b, limit, nil, impl.CdType)
			for other := int64(0); other <= 6; other++ {
				checkRecode(t, format, other, s, b, limit, "", impl.CdType)
				checkRecode(t, other, format, s, b, limit, "", impl.CdType)
			}
		}
	}
}

func TestAdmits(t *testing.T) {
	// Of each schema: whether proto3 and Bitcoin admit it; all others do.
	for _, r := range []struct {
		schema         string
		proto, bitcoin bool
	}{
		{"u8", false, true}, {"u64", false, true}, {"bool", false, true}, {"bytes0", false, true}, {"fixed64", false, true}, {"list20 u8", false, true}, {"vector8 u8", false, true},
		{"option u8", false, false}, {"union1 u8", false, false}, {"list3 struct1 u8", false, true},
		{"struct1 u8", true, true}, {"struct6 u8 bool bytes3 fixed3 list3 u8 struct1 u8", true, true}, {"struct1 list3 struct1 fixed3", true, true},
		{"struct1 option u8", true, false}, {"struct2 u8 option struct1 u8", true, false}, {"struct1 union1 u8", false, false}, {"struct1 vector2 u8", false, true}, {"struct1 list2 list2 u8", false, true}, {"struct1 list2 option u8", false, false},
	} {
		s := schemaOf(t, r.schema)
		for format, want := range []bool{false, true, true, true, r.proto, r.bitcoin, false} {
			checkAdmits(t, int64(format), s, want)
			if !want {
				checkNotOfFormat(t, int64(format), s, impl.ZeroOf(s))
			}
		}
		for _, format := range noFormats {
			checkNotOfFormat(t, format, s, impl.ZeroOf(s))
		}
	}
}

func TestAdmitsOfManySchemas(t *testing.T) {
	eachFormat(t, func(t *testing.T, format int64, w wire) {
		r := rand.New(rand.NewPCG(11, 12))
		for range 3000 {
			sh := w.grow(r, r.IntN(4))
			if r.IntN(3) == 0 {
				sh = randomShape(r, r.IntN(4))
			}
			s := sh.schema()
			is := len(s) <= 40
			checkAdmits(t, format, s, is && w.admits(sh))
			checkAdmits(t, format, s[:len(s)-1], false)
			checkAdmits(t, format, append(s, s...), false)
		}
	})
}

func TestNoSchemaHasNoFormat(t *testing.T) {
	for _, s := range [][]impl.Typ{
		nil, {}, {{Kind: 7, N: 1}}, {{Kind: 7}}, {{Kind: 7, N: 1}, {Kind: 1, N: 7}}, {{Kind: 7, N: 1}, {Kind: 1, N: 8}, {Kind: 1, N: 8}}, {{Kind: 1, N: 8}, {Kind: 1, N: 8}}, {{Kind: 0}}, {{Kind: 10}},
		slices.Repeat([]impl.Typ{{Kind: 7, N: 1}}, 8), slices.Repeat([]impl.Typ{{Kind: 7, N: 1}}, 100000),
	} {
		for format := int64(0); format <= 6; format++ {
			for _, v := range [][]impl.Item{nil, {{Kind: 1}}, {{Kind: 7, N: 1}, {Kind: 1}}} {
				checkNotOfFormat(t, format, s, v)
			}
		}
	}
}

// checkWithin asks for a value that has those bytes, with limits around them.
func checkWithin(t *testing.T, format int64, s []impl.Typ, v []impl.Item, b string) {
	t.Helper()
	size := int64(len(b))
	for _, limit := range []int64{size, size + 1, 9999, 10000} {
		if size <= limit && limit <= 10000 {
			checkEncode(t, format, s, v, limit, b, impl.CdOk)
			checkDecode(t, format, s, b, limit, v, impl.CdOk)
		}
	}
	for _, limit := range []int64{size - 1, size / 2, 0} {
		if 0 <= limit && limit < size && limit <= 10000 {
			checkEncode(t, format, s, v, limit, "", impl.CdLimit)
			checkDecode(t, format, s, b, limit, nil, impl.CdLimit)
		}
	}
	for _, limit := range noLimits {
		checkEncode(t, format, s, v, limit, "", impl.CdType)
		checkDecode(t, format, s, b, limit, nil, impl.CdType)
	}
}

// checkOther asks for bytes that may be none of s.
func checkOther(t *testing.T, format int64, w wire, s []impl.Typ, b string) {
	t.Helper()
	v, ok := w.dec(s, b)
	size := int64(len(b))
	if ok {
		checkWithin(t, format, s, v, b)
		return
	}
	checkDecode(t, format, s, b, size, nil, impl.CdForm)
	checkDecode(t, format, s, b, 10000, nil, impl.CdForm)
	if size > 0 {
		// What is both too much and no value is told as too much.
		checkDecode(t, format, s, b, size-1, nil, impl.CdLimit)
		checkDecode(t, format, s, b, 0, nil, impl.CdLimit)
	}
	for _, limit := range noLimits {
		checkDecode(t, format, s, b, limit, nil, impl.CdType)
	}
}

func TestWhatIsEncodedIsDecoded(t *testing.T) {
	eachFormat(t, func(t *testing.T, format int64, w wire) {
		long, others := 0, 0
		eachRandomOf(w.grow, func(r *rand.Rand, sh shape, v []impl.Item) {
			s := sh.schema()
			if !w.admits(sh) {
				checkAdmits(t, format, s, false)
				checkEncode(t, format, s, v, 10000, "", impl.CdType)
				checkDecode(t, format, s, "", 10000, nil, impl.CdType)
				return
			}
			want, _ := w.of(sh, v)
			b := string(want)
			if len(v) > 200 {
				long++
				checkEncode(t, format, s, v, 10000, "", impl.CdType)
				if len(b) <= 10000 {
					checkDecode(t, format, s, b, 10000, nil, impl.CdForm)
				}
				return
			}
			checkWithin(t, format, s, v, b)
			if len(b) > 400 {
				return
			}
			others++
			checkOther(t, format, w, s, b+"\x00")
			checkOther(t, format, w, s, b[:len(b)/2])
			checkOther(t, format, w, s, b[:max(len(b)-1, 0)])
			checkOther(t, format, w, s, string(spoilBytes(r, want)))
		})
		if long == 0 || others < 1000 {
			t.Errorf("%d values were too long, %d had bytes around them", long, others)
		}
	})
}

// allFormats is what all formats admit, and its values have up to 200 texts.
const allFormats = "struct2 list20 bool list20 struct1 list20 bytes200"

// ofSize answers a value of allFormats that has so many bytes in a format: one
// that has more, the last text of which is made shorter, and what is ahead of
// that may be shorter then by itself.
func ofSize(t *testing.T, w wire, size int) ([]impl.Item, string) {
	t.Helper()
	sh := shapeOf(t, allFormats)
	full := strings.Repeat("\xee", 200)
	for n := 50; n < 65; n++ {
		v := grownMessage(n, impl.Item{Kind: impl.TyBytes, S: full})
		b, _ := w.of(sh, v)
		for ahead := range 4 {
			v[n-1].S = full[max(0, min(len(b)-size-ahead, 200)):]
			if b, _ := w.of(sh, v); len(b) == size {
				return v, string(b)
			}
		}
	}
	t.Fatalf("%s: no value has %d bytes", w.name, size)
	return nil, ""
}

func TestMostBytes(t *testing.T) {
	eachFormat(t, func(t *testing.T, format int64, w wire) {
		s := schemaOf(t, allFormats)
		for size := 9990; size <= 10000; size++ {
			v, b := ofSize(t, w, size)
			checkWithin(t, format, s, v, b)
			checkRecode(t, format, format, s, b, int64(size), b, impl.CdOk)
			checkRecode(t, format, format, s, b, 10000, b, impl.CdOk)
			checkRecode(t, format, format, s, b, int64(size-1), "", impl.CdLimit)
		}
		for size := 10001; size <= 10010; size++ {
			v, b := ofSize(t, w, size)
			checkWithin(t, format, s, v, b)
			checkEncode(t, format, s, v, 10000, "", impl.CdLimit)
			checkDecode(t, format, s, b, 10000, nil, impl.CdLimit)
			checkDecode(t, format, s, b[1:]+"\xff", 10000, nil, impl.CdLimit)
			checkRecode(t, format, format, s, b, 10000, "", impl.CdLimit)
			checkRecode(t, format, format, s, b, 10001, "", impl.CdType)
		}
	})
}

func TestValuesWithoutBytes(t *testing.T) {
	for _, r := range []struct {
		format        int64
		schema, value string
	}{
		{impl.FmSsz, "bytes0", "b:"}, {impl.FmSsz, "bytes200", "b:"}, {impl.FmSsz, "list20 u8", "l0"}, {impl.FmSsz, "list3 bytes3", "l0"}, {impl.FmSsz, "list3 option u8", "l0"},
		{impl.FmProto, "struct1 u8", "s1 0"}, {impl.FmProto, "struct1 bytes3", "s1 b:"}, {impl.FmProto, "struct1 option u8", "s1 none"}, {impl.FmProto, "struct1 list3 fixed3", "s1 l0"}, {impl.FmProto, "struct6 u8 bool bytes3 list3 u8 option u8 list3 struct1 u8", "s6 0 f b: l0 none l0"},
	} {
		s, v := schemaOf(t, r.schema), valueOf(t, r.value)
		checkWithin(t, r.format, s, v, "")
		checkEncode(t, r.format, s, v, 0, "", impl.CdOk)
		checkDecode(t, r.format, s, "", 0, v, impl.CdOk)
		checkDecode(t, r.format, s, "\xff", 0, nil, impl.CdLimit)
		checkRecode(t, r.format, r.format, s, "", 0, "", impl.CdOk)
		// The other formats write at least one byte of these.
		for _, other := range []int64{impl.FmRlp, impl.FmScale} {
			checkEncode(t, other, s, v, 0, "", impl.CdLimit)
			checkDecode(t, other, s, "", 0, nil, impl.CdForm)
			checkRecode(t, r.format, other, s, "", 0, "", impl.CdLimit)
			checkRecode(t, other, r.format, s, "", 0, "", impl.CdForm)
			b, code := impl.Encode(other, s, v, 10000)
			if code != impl.CdOk || b == "" {
				t.Fatalf("%s of %s is written as %q, %d", r.value, r.schema, b, code)
			}
			checkRecode(t, other, r.format, s, b, int64(len(b)), "", impl.CdOk)
		}
	}
	// One byte, and a limit of 0.
	for format := int64(1); format <= 5; format++ {
		s := schemaOf(t, "struct1 u8")
		checkEncode(t, format, s, valueOf(t, "s1 7"), 0, "", impl.CdLimit)
	}
}

func TestEncodeOfNoValue(t *testing.T) {
	for format := int64(1); format <= 5; format++ {
		for _, r := range []struct{ schema, value string }{
			{"struct1 u8", "s1 256"}, {"struct1 u8", "s1 t"}, {"struct1 u8", "s1"}, {"struct1 u8", "s1 7 7"}, {"struct1 u8", "7"}, {"struct1 u8", "s2 7 7"}, {"struct1 u8", "v1 7"},
			{"struct2 u8 bytes2", "s2 7 b:000000"}, {"struct2 u8 bytes2", "s2 7 x:00"}, {"struct2 u8 bytes2", "s2 b:00 7"}, {"struct1 fixed2", "s1 x:00"}, {"struct1 fixed2", "s1 x:000000"}, {"struct1 list2 u8", "s1 l3 1 1 1"}, {"struct1 list2 u8", "s1 l2 1"}, {"struct1 list2 u8", "s1 l1 1 1"},
		} {
			for _, limit := range []int64{0, 1, 10000} {
				checkEncode(t, format, schemaOf(t, r.schema), valueOf(t, r.value), limit, "", impl.CdType)
			}
		}
		for _, it := range wrongItems {
			for _, schema := range []string{"struct1 u8", "struct1 bool", "struct1 bytes1", "struct1 fixed1", "struct1 list1 u8"} {
				checkEncode(t, format, schemaOf(t, schema), []impl.Item{{Kind: impl.TyStruct, N: 1}, it}, 0, "", impl.CdType)
			}
		}
		checkEncode(t, format, schemaOf(t, "struct1 u8"), nil, 10000, "", impl.CdType)
		checkEncode(t, format, schemaOf(t, "struct1 list2 u8"), []impl.Item{}, 0, "", impl.CdType)
	}
}

func TestWhatDecodeTellsFirst(t *testing.T) {
	for format := int64(1); format <= 5; format++ {
		s := schemaOf(t, "struct2 u16 bytes9")
		b, _ := impl.Encode(format, s, valueOf(t, "s2 258 b:6162"), 10000)
		size := int64(len(b))
		for _, other := range []string{b + strings.Repeat("\x00", 9), "\xff" + b, b + b, strings.Repeat("\xff", 10000)} {
			checkDecode(t, format, s, other, size, nil, impl.CdLimit)
			checkDecode(t, format, s, other, 0, nil, impl.CdLimit)
			checkDecode(t, format, s, other, 10000, nil, impl.CdForm)
			checkDecode(t, format, s, other, -1, nil, impl.CdType)
			checkDecode(t, format, s, other, 10001, nil, impl.CdType)
			checkDecode(t, format, nil, other, 0, nil, impl.CdType)
		}
		for i := range len(b) {
			// SSZ and proto3 see no end: some first bytes may be a value, too.
			if _, ok := wires[format-1].dec(s, b[:i]); ok {
				continue
			}
			checkDecode(t, format, s, b[:i], int64(i), nil, impl.CdForm)
			if i > 0 {
				checkDecode(t, format, s, b[:i], int64(i-1), nil, impl.CdLimit)
			}
		}
		checkDecode(t, format, s, strings.Repeat("\xff", 10001), 10000, nil, impl.CdLimit)
		checkDecode(t, format, s, strings.Repeat("\xff", 1<<20), 10000, nil, impl.CdLimit)
	}
}

// randomEvery answers a shape of which all formats have values, but for some
// that proto3 or Bitcoin has none of.
func randomEvery(r *rand.Rand, deep int) shape {
	switch r.IntN(6) {
	case 0:
		return randomShape(r, deep)
	case 1:
		return randomMessage(r, 2+deep)
	}
	return plain(randomMessage(r, 2+deep))
}

// formatsOf answers which formats have values of sh.
func formatsOf(sh shape) []int64 {
	var list []int64
	for i, w := range wires {
		if w.admits(sh) {
			list = append(list, int64(i+1))
		}
	}
	return list
}

func TestUnlikeValuesHaveUnlikeBytes(t *testing.T) {
	t.Parallel()
	count := 0
	eachRandomOf(randomEvery, func(r *rand.Rand, sh shape, v []impl.Item) {
		s := sh.schema()
		for range 3 {
			other := spoil(r, v)
			if len(v) > 200 || slices.Equal(v, other) || !isValue(sh, other) {
				continue
			}
			for _, format := range formatsOf(sh) {
				one, k := impl.Encode(format, s, v, 10000)
				two, l := impl.Encode(format, s, other, 10000)
				if k == impl.CdOk && l == impl.CdOk {
					count++
					if one == two {
						t.Fatalf("format %d of %s: %v and %v are both %q", format, impl.SchemaText(s), v, other, one)
					}
				}
			}
		}
	})
	if count < 5000 {
		t.Errorf("%d pairs only", count)
	}
}

// allValues answers all values of a shape whose numbers are truths and whose
// texts have at most one byte, 0 or 1.
func allValues(sh shape) [][]impl.Item {
	var first []impl.Item
	switch sh.typ.Kind {
	case impl.TyBool, impl.TyOption:
		first = []impl.Item{{Kind: sh.typ.Kind}, {Kind: sh.typ.Kind, N: 1}}
	case impl.TyBytes:
		first = []impl.Item{{Kind: impl.TyBytes}, {Kind: impl.TyBytes, S: "\x00"}, {Kind: impl.TyBytes, S: "\x01"}}
	case impl.TyList, impl.TyUnion:
		for n := range sh.typ.N {
			first = append(first, impl.Item{Kind: sh.typ.Kind, N: uint64(n)})
		}
		if sh.typ.Kind == impl.TyList {
			first = append(first, impl.Item{Kind: impl.TyList, N: uint64(sh.typ.N)})
		}
	default:
		first = []impl.Item{{Kind: sh.typ.Kind, N: uint64(sh.typ.N)}}
	}
	var list [][]impl.Item
	for _, it := range first {
		begun := [][]impl.Item{{it}}
		for _, part := range sh.under(it.N) {
			var longer [][]impl.Item
			for _, v := range begun {
				for _, more := range allValues(part) {
					longer = append(longer, slices.Concat(v, more))
				}
			}
			begun = longer
		}
		list = append(list, begun...)
	}
	return list
}

func TestAllValuesOfSmallSchemasHaveUnlikeBytes(t *testing.T) {
	t.Parallel()
	for _, r := range []struct {
		schema string
		count  int
	}{
		{"struct1 list3 bool", 15}, {"struct2 list2 bytes1 list2 bytes1", 169}, {"struct1 list2 struct2 bool bytes1", 43}, {"struct3 option bool bool option bytes1", 24},
		{"struct2 option struct1 bool list2 struct1 bool", 21}, {"list3 list2 bool", 400}, {"option option option bool", 5}, {"union3 bool bytes1 list2 bool", 12}, {"vector2 union2 option bool bytes1", 36},
		{"list2 option list2 bytes1", 211}, {"struct2 bytes1 struct2 bytes1 bytes1", 27}, {"struct2 list2 struct1 list2 bool bool", 114},
	} {
		sh := shapeOf(t, r.schema)
		values := allValues(sh)
		if len(values) != r.count {
			t.Fatalf("%s has %d values", r.schema, len(values))
		}
		for _, format := range formatsOf(sh) {
			owners := map[string]int{}
			for i, v := range values {
				b, code := impl.Encode(format, sh.schema(), v, 10000)
				if code != impl.CdOk {
					t.Fatalf("format %d of %s: %v has code %d", format, r.schema, v, code)
				}
				if other, ok := owners[b]; ok {
					t.Fatalf("format %d of %s: %v and %v are both %q", format, r.schema, v, values[other], b)
				}
				owners[b] = i
				checkDecode(t, format, sh.schema(), b, int64(len(b)), v, impl.CdOk)
			}
		}
	}
}

// checkThrough turns b into each other format, and back, by way of a third one,
// too.
func checkThrough(t *testing.T, s []impl.Typ, formats []int64, b map[int64]string) {
	t.Helper()
	for _, from := range formats {
		for _, to := range formats {
			limit := int64(max(len(b[from]), len(b[to])))
			checkRecode(t, from, to, s, b[from], limit, b[to], impl.CdOk)
			checkRecode(t, from, to, s, b[from], 10000, b[to], impl.CdOk)
			if limit > 0 {
				checkRecode(t, from, to, s, b[from], limit-1, "", impl.CdLimit)
			}
			for _, limit := range noLimits {
				checkRecode(t, from, to, s, b[from], limit, "", impl.CdType)
			}
			there, _ := impl.Recode(from, to, s, b[from], 10000)
			checkRecode(t, to, from, s, there, 10000, b[from], impl.CdOk)
			for _, third := range formats {
				by, _ := impl.Recode(to, third, s, there, 10000)
				checkRecode(t, third, from, s, by, 10000, b[from], impl.CdOk)
			}
		}
	}
}

func TestFromOneFormatIntoAnother(t *testing.T) {
	t.Parallel()
	count, n := 0, 0
	eachRandomOf(randomEvery, func(r *rand.Rand, sh shape, v []impl.Item) {
		if n++; n%40 > 0 || len(v) > 200 {
			return
		}
		s, formats := sh.schema(), formatsOf(sh)
		bytes := map[int64]string{}
		for _, format := range formats {
			b, _ := wires[format-1].of(sh, v)
			if len(b) > 10000 {
				return
			}
			bytes[format] = string(b)
		}
		checkThrough(t, s, formats, bytes)
		if len(formats) == 5 {
			count++
		}
		for format := int64(0); format <= 6; format++ {
			if slices.Contains(formats, format) {
				continue
			}
			for _, other := range formats {
				checkRecode(t, format, other, s, bytes[other], 10000, "", impl.CdType)
				checkRecode(t, other, format, s, bytes[other], 10000, "", impl.CdType)
			}
		}
	})
	if count < 80 {
		t.Errorf("%d values of all formats only", count)
	}
}

func TestRecodeOfOtherBytes(t *testing.T) {
	t.Parallel()
	good, bad := 0, 0
	eachRandomOf(randomEvery, func(r *rand.Rand, sh shape, v []impl.Item) {
		s, formats := sh.schema(), formatsOf(sh)
		from, to := formats[r.IntN(len(formats))], formats[r.IntN(len(formats))]
		first, _ := wires[from-1].of(sh, v)
		b := string(spoilBytes(r, first))
		if len(b) > 2000 {
			return
		}
		value, ok := wires[from-1].dec(s, b)
		if ok {
			good++
			want, _ := wires[to-1].of(sh, value)
			checkRecode(t, from, to, s, b, 10000, string(want), impl.CdOk)
			return
		}
		bad++
		checkRecode(t, from, to, s, b, int64(len(b)), "", impl.CdForm)
		if len(b) > 0 {
			checkRecode(t, from, to, s, b, int64(len(b)-1), "", impl.CdLimit)
		}
		checkRecode(t, from, to, s, b, -1, "", impl.CdType)
	})
	if good < 500 || bad < 500 {
		t.Errorf("%d were read, %d were not", good, bad)
	}
}

func TestWhatRecodeTellsFirst(t *testing.T) {
	plain, message := schemaOf(t, "u8"), schemaOf(t, "struct1 option u8")
	for _, r := range []struct {
		from, to int64
		s        []impl.Typ
		b        string
		limit    int64
		code     int64
	}{
		// To is no format, or does not admit the schema, whatever the bytes are.
		{1, 4, plain, "\x01", 10, impl.CdType}, {1, 4, plain, "\xff\xff", 10, impl.CdType}, {1, 4, plain, "\xff\xff", 1, impl.CdType}, {1, 6, plain, "\xff\xff", 1, impl.CdType}, {1, 0, plain, "\xff\xff", 1, impl.CdType}, {5, 4, plain, "\x01", 10, impl.CdType},
		{1, 5, message, "\xc1\xc0", 10, impl.CdType}, {1, 5, message, "\xff", 10, impl.CdType}, {1, 5, message, "\xff", 0, impl.CdType}, {4, 5, message, "", 10, impl.CdType},
		// From likewise.
		{4, 1, plain, "\x01", 10, impl.CdType}, {4, 1, plain, "\xff\xff", 1, impl.CdType}, {0, 1, plain, "\x01", 10, impl.CdType}, {6, 1, plain, "\x01", 0, impl.CdType}, {5, 1, message, "\x00", 10, impl.CdType}, {5, 4, message, "", 0, impl.CdType},
		{0, 0, plain, "\x01", 10, impl.CdType}, {6, 6, plain, "\x01", 10, impl.CdType}, {4, 4, plain, "", 10, impl.CdType}, {5, 5, message, "", 10, impl.CdType},
		{1, 2, nil, "", 10, impl.CdType}, {1, 2, plain[:0], "\x01", 0, impl.CdType},
		// No limit.
		{1, 2, plain, "\x01", -1, impl.CdType}, {1, 2, plain, "\x01", 10001, impl.CdType}, {1, 2, plain, "\xff\xff", -1, impl.CdType}, {1, 2, plain, strings.Repeat("\xff", 10002), 10001, impl.CdType},
		// Too many bytes ahead of bytes that are none.
		{1, 2, plain, "\xff\xff", 1, impl.CdLimit}, {1, 2, plain, "\xff", 0, impl.CdLimit}, {1, 2, plain, strings.Repeat("\xff", 10001), 10000, impl.CdLimit}, {1, 2, plain, "\xff\xff", 2, impl.CdForm}, {1, 2, plain, "", 0, impl.CdForm}, {1, 2, plain, "", 10000, impl.CdForm},
		// Too many bytes that are written, of bytes that are not too many.
		{2, 1, plain, "\xff", 1, impl.CdLimit}, {4, 1, message, "", 0, impl.CdLimit}, {4, 2, message, "\x08\x00", 2, impl.CdLimit}, {1, 2, schemaOf(t, "u64"), "\x01", 7, impl.CdLimit},
		{2, 1, plain, "\xff\xff", 1, impl.CdLimit}, {2, 1, plain, "\xff\xff", 2, impl.CdForm},
	} {
		checkRecode(t, r.from, r.to, r.s, r.b, r.limit, "", r.code)
	}
	checkRecode(t, 2, 1, plain, "\xff", 2, "\x81\xff", impl.CdOk)
	checkRecode(t, 1, 2, schemaOf(t, "u64"), "\x01", 8, "\x01\x00\x00\x00\x00\x00\x00\x00", impl.CdOk)
	checkRecode(t, 4, 1, message, "", 10000, "\xc1\xc0", impl.CdOk)
}

// within tells whether a lies in memory that b has.
func within(a, b string) bool {
	if a == "" || b == "" {
		return false
	}
	one, two := uintptr(unsafe.Pointer(unsafe.StringData(a))), uintptr(unsafe.Pointer(unsafe.StringData(b)))
	return one < two+uintptr(len(b)) && two < one+uintptr(len(a))
}

func TestCodecsLeaveAlone(t *testing.T) {
	for _, r := range []struct{ schema, value string }{
		{"struct3 list4 struct2 u8 fixed2 bytes5 list4 u16", "s3 l2 s2 0 x:0102 s2 9 x:0304 b:0506 l2 7 0"}, {"struct2 option bytes5 bytes5", "s2 some b:0506 b:07"}, {"bytes5", "b:0506"}, {"bytes5", "b:05"}, {"fixed1", "x:7f"}, {"list4 fixed2", "l2 x:0102 x:0304"}, {"struct1 bytes9", "s1 b:61626364"},
	} {
		s := append(schemaOf(t, r.schema), impl.Typ{Kind: 3, N: 5})
		v := append(valueOf(t, r.value), impl.Item{Kind: 3, S: "kept"})
		types, items := slices.Clone(s), slices.Clone(v)
		for _, format := range formatsOf(shapeOf(t, r.schema)) {
			checkCodecLeavesAlone(t, format, s[:len(s)-1], v[:len(v)-1])
		}
		if !slices.Equal(s, types) || !slices.Equal(v, items) {
			t.Errorf("%v became %v, %v became %v", types, s, items, v)
		}
	}
}

// checkCodecLeavesAlone makes each call twice, and clears what it answers.
func checkCodecLeavesAlone(t *testing.T, format int64, s []impl.Typ, v []impl.Item) {
	t.Helper()
	items := slices.Clone(v)
	b, code := impl.Encode(format, s, v, 10000)
	for range 2 {
		checkAdmits(t, format, s, true)
		checkEncode(t, format, s, v, 10000, b, code)
		back, k := impl.Decode(format, s, b, 10000)
		if k != impl.CdOk || !slices.Equal(back, items) {
			t.Fatalf("format %d: %q is read as %v, %d", format, b, back, k)
		}
		other, k := impl.Recode(format, format, s, b, 10000)
		if k != impl.CdOk || other != b || within(other, b) {
			t.Fatalf("format %d: %q becomes %q, %d", format, b, other, k)
		}
		for _, it := range items {
			if within(it.S, b) {
				t.Fatalf("format %d: the bytes share memory with %q", format, it.S)
			}
		}
		for _, it := range back {
			if within(it.S, b) {
				t.Fatalf("format %d: %q shares memory with the bytes", format, it.S)
			}
		}
		clear(back)
	}
}
