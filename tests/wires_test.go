package tests

import (
	"math/rand/v2"
	"slices"
	"strings"
	"testing"

	"loop.example/g00774/impl"
)

// A wire is a format, and the tests' own reading of its chapter: of answers
// the bytes of the value of a shape with which v begins, and what of v is left.
type wire struct {
	name string
	enc  func(s []impl.Typ, v []impl.Item) (string, bool)
	dec  func(s []impl.Typ, b string) ([]impl.Item, bool)
	of   func(sh shape, v []impl.Item) ([]byte, []impl.Item)
	// ends tells whether no value's bytes begin those of another one.
	ends bool
	// admits tells whether the format has values of a shape, and grow makes
	// shapes of which it has some.
	admits func(sh shape) bool
	grow   func(r *rand.Rand, deep int) shape
}

var wires = []wire{
	{"RLP", impl.RlpEnc, impl.RlpDec, rlpOf, true, isAny, randomShape},
	{"SSZ", impl.SszEnc, impl.SszDec, sszOf, false, isAny, randomShape},
	{"SCALE", impl.ScaleEnc, impl.ScaleDec, countedOf(scaleCount), true, isAny, randomShape},
	{"proto3", impl.ProtoEnc, impl.ProtoDec, protoOf, false, isMessage, randomMessageOrNot},
	{"Bitcoin", impl.BitcoinEnc, impl.BitcoinDec, countedOf(bitcoinCount), true, isPlain, randomPlainOrNot},
}

func isAny(shape) bool {
	return true
}

func wireOf(name string) wire {
	return wires[slices.IndexFunc(wires, func(w wire) bool { return w.name == name })]
}

// eachWire asks all formats at once.
func eachWire(t *testing.T, ask func(t *testing.T, w wire)) {
	t.Parallel()
	for _, w := range wires {
		t.Run(w.name, func(t *testing.T) {
			t.Parallel()
			ask(t, w)
		})
	}
}

func (w wire) checkNone(t *testing.T, s []impl.Typ, b string) {
	t.Helper()
	if v, ok := w.dec(s, b); ok || len(v) != 0 {
		t.Errorf("%s: %q is read as %s %v, %v", w.name, b, impl.SchemaText(s), v, ok)
	}
}

func (w wire) checkUnwritten(t *testing.T, s []impl.Typ, v []impl.Item) {
	t.Helper()
	if b, ok := w.enc(s, v); ok || b != "" {
		t.Errorf("%s: %v of %v is written as %q, %v", w.name, v, s, b, ok)
	}
}

// check asks for the value's bytes, and for what is made of them.
func (w wire) check(t *testing.T, s []impl.Typ, v []impl.Item, want string) {
	t.Helper()
	b, ok := w.enc(s, v)
	if !ok || b != want {
		t.Fatalf("%s of %s: %s is written as %q, %v, not %q", w.name, impl.SchemaText(s), impl.ValueText(v), b, ok, want)
	}
	back, ok := w.dec(s, want)
	if !ok || !slices.Equal(back, v) {
		t.Fatalf("%s of %s: %q is read as %v, %v, not %v", w.name, impl.SchemaText(s), want, back, ok, v)
	}
}

// again asks the half of the promise that begins with bytes.
func (w wire) again(t *testing.T, s []impl.Typ, b string) bool {
	t.Helper()
	v, ok := w.dec(s, b)
	if !ok {
		if len(v) != 0 {
			t.Fatalf("%s: %q is refused with %v", w.name, b, v)
		}
		return false
	}
	written, is := w.enc(s, v)
	if !is || written != b || !impl.Typed(s, v) {
		t.Fatalf("%s: %q is read as %s %v, which is written as %q, %v", w.name, b, impl.SchemaText(s), v, written, is)
	}
	return true
}

// checkEnds asks for b with bytes more, and without some last ones, of many
// bytes not all of them.
func (w wire) checkEnds(t *testing.T, s []impl.Typ, b string) {
	t.Helper()
	var others []string
	for _, more := range []string{"\x00", "\x01", "\x04", "\x7f", "\x80", "\xc0", "\xff", b + "\x00"} {
		others = append(others, b+more)
	}
	for i := len(b) - 1; i >= 0; i -= 1 + len(b)/60 {
		others = append(others, b[:i])
	}
	for _, other := range others {
		if w.again(t, s, other) && w.ends {
			t.Fatalf("%s of %s: %q is read, and so is %q", w.name, impl.SchemaText(s), b, other)
		}
	}
}

// checkNotAdmitted asks for a value of a schema of which the format has none.
func (w wire) checkNotAdmitted(t *testing.T, s []impl.Typ, v []impl.Item) {
	t.Helper()
	w.checkUnwritten(t, s, v)
	for _, b := range []string{"", "\x00", "\x01", "\x00\x00", "\x08\x01", "\x0a\x00", "\x0a\x01\x00"} {
		w.checkNone(t, s, b)
	}
}

// thinned makes nothing of some numbers, truths and bytes.
func thinned(r *rand.Rand, v []impl.Item) []impl.Item {
	v = slices.Clone(v)
	for i, it := range v {
		if r.IntN(2) == 0 && slices.Contains([]int64{impl.TyUint, impl.TyBool, impl.TyBytes}, it.Kind) {
			v[i] = impl.Item{Kind: it.Kind}
		}
	}
	return v
}

func TestValuesComeBackFromEachWire(t *testing.T) {
	eachWire(t, func(t *testing.T, w wire) {
		long := 0
		eachRandomOf(w.grow, func(r *rand.Rand, sh shape, v []impl.Item) {
			s := sh.schema()
			if !w.admits(sh) {
				w.checkNotAdmitted(t, s, v)
				return
			}
			if r.IntN(2) == 0 {
				v = thinned(r, v)
			}
			want, rest := w.of(sh, v)
			if len(rest) > 0 {
				t.Fatalf("%v is left of %v", rest, v)
			}
			if len(v) > 200 {
				long++
				w.checkNone(t, s, string(want))
				w.checkUnwritten(t, s, v)
				return
			}
			w.check(t, s, v, string(want))
			if len(want) < 300 {
				w.checkEnds(t, s, string(want))
			}
		})
		if long == 0 {
			t.Errorf("%s: no value was too long", w.name)
		}
	})
}

// edges are bytes at which heads, counts and truths of a format change.
var edges = []byte{0, 1, 2, 3, 4, 5, 8, 9, 10, 12, 16, 18, 24, 26, 0x37, 0x38, 0x50, 0x54, 0x7f, 0x80, 0x81, 0xb7, 0xb8, 0xb9, 0xbf, 0xc0, 0xc1, 0xf7, 0xf8, 0xf9, 0xfa, 0xfc, 0xfd, 0xfe, 0xff}

// spoilBytes changes, takes out or puts in one byte.
func spoilBytes(r *rand.Rand, b []byte) []byte {
	b = slices.Clone(b)
	if len(b) == 0 {
		return []byte{edges[r.IntN(len(edges))]}
	}
	i := r.IntN(len(b))
	switch r.IntN(4) {
	case 0:
		b[i] += byte(r.IntN(3)) - 1
	case 1:
		b[i] = edges[r.IntN(len(edges))]
	case 2:
		b = slices.Delete(b, i, i+1)
	case 3:
		b = slices.Insert(b, i, edges[r.IntN(len(edges))])
	}
	return b
}

func TestSpoiledBytes(t *testing.T) {
	eachWire(t, func(t *testing.T, w wire) {
		good, bad := 0, 0
		eachRandomOf(w.grow, func(r *rand.Rand, sh shape, v []impl.Item) {
			if !w.admits(sh) {
				return
			}
			b, _ := w.of(sh, v)
			for range 6 {
				if w.again(t, sh.schema(), string(spoilBytes(r, b))) {
					good++
				} else {
					bad++
				}
			}
		})
		if good < 1000 || bad < 1000 {
			t.Errorf("%s: %d were read, %d were not", w.name, good, bad)
		}
	})
}

func TestMostItemsOnEachWire(t *testing.T) {
	eachWire(t, func(t *testing.T, w wire) {
		for _, r := range []struct {
			schema string
			least  int
			grow   func(n int, part impl.Item) []impl.Item
		}{{"list20 list20 ", 1, grown}, {"struct2 list20 bool list20 struct1 list20 ", 3, grownMessage}} {
			sh := shapeOf(t, r.schema+"u8")
			if !w.admits(sh) {
				w.checkNotAdmitted(t, sh.schema(), r.grow(9, impl.Item{Kind: impl.TyUint}))
				continue
			}
			for n := r.least; n <= 420; n++ {
				v := r.grow(n, impl.Item{Kind: impl.TyUint, N: uint64(n % 256)})
				want, _ := w.of(sh, v)
				if n <= 200 {
					w.check(t, sh.schema(), v, string(want))
					continue
				}
				w.checkNone(t, sh.schema(), string(want))
				w.checkUnwritten(t, sh.schema(), v)
			}
			// The longest value: as many texts of most bytes as there may be.
			sh = shapeOf(t, r.schema+"bytes200")
			v := r.grow(200, impl.Item{Kind: impl.TyBytes, S: strings.Repeat("\xee", 200)})
			want, _ := w.of(sh, v)
			w.check(t, sh.schema(), v, string(want))
		}
	})
}

func TestNoValueHasNoBytes(t *testing.T) {
	eachWire(t, func(t *testing.T, w wire) {
		for _, r := range []struct{ schema, value string }{
			{"u8", "256"}, {"u8", "t"}, {"u8", "1 1"}, {"u16", "65536"}, {"bool", "1"}, {"bytes1", "b:0000"}, {"bytes1", "x:00"}, {"fixed1", "x:"}, {"fixed1", "x:0000"}, {"list1 u8", "l2 1 1"}, {"list1 u8", "l1"}, {"list1 u8", "l0 1"},
			{"vector2 u8", "v1 1"}, {"vector2 u8", "v3 1 1 1"}, {"struct2 u8 u8", "s2 1"}, {"struct2 u8 bytes1", "s2 b:01 1"}, {"option u8", "some"}, {"option u8", "none 1"}, {"union1 u8", "c1 1"}, {"union2 u8 bool", "c2 1"}, {"union2 u8 bool", "c1 1"},
		} {
			w.checkUnwritten(t, schemaOf(t, r.schema), valueOf(t, r.value))
			w.checkUnwritten(t, schemaOf(t, "struct1 "+r.schema), valueOf(t, "s1 "+r.value))
			w.checkUnwritten(t, schemaOf(t, "struct2 u8 "+r.schema), valueOf(t, "s2 7 "+r.value))
		}
		for _, it := range append(slices.Clone(wrongItems), impl.Item{}) {
			for _, schema := range []string{"u8", "bool", "bytes1", "fixed1", "option u8", "list1 u8", "union4 u8 u8 u8 u8"} {
				for _, v := range [][]impl.Item{{it}, {it, {Kind: 1}}} {
					w.checkUnwritten(t, schemaOf(t, schema), v)
					w.checkUnwritten(t, schemaOf(t, "struct1 "+schema), append([]impl.Item{{Kind: impl.TyStruct, N: 1}}, v...))
				}
			}
		}
		w.checkUnwritten(t, schemaOf(t, "u8"), nil)
		w.checkUnwritten(t, schemaOf(t, "bytes1"), nil)
	})
}

// checkCounts counts which of few are read: as many as there are such values.
func (w wire) checkCounts(t *testing.T, few []string, schema string, want [4]int) {
	t.Helper()
	s := schemaOf(t, schema)
	var counts [4]int
	for _, b := range few {
		if w.again(t, s, b) {
			counts[len(b)]++
		}
	}
	if counts != want {
		t.Errorf("%s of %s: %v values of 0 .. 3 bytes, not %v", w.name, schema, counts, want)
	}
}

// fewBytes has all bytes up to two, and some of three: ten first ones, any
// second one, four last ones.
func fewBytes() []string {
	list := []string{""}
	for n := range 256 {
		list = append(list, string([]byte{byte(n)}))
	}
	for n := range 65536 {
		list = append(list, string([]byte{byte(n >> 8), byte(n)}))
	}
	for _, first := range []byte{0, 1, 2, 3, 4, 5, 8, 9, 12, 13} {
		for second := range 256 {
			for _, third := range []byte{0, 1, 2, 255} {
				list = append(list, string([]byte{first, byte(second), third}))
			}
		}
	}
	return list
}

// A wrong has bytes that are none of a schema.
type wrong struct {
	schema string
	bytes  []string
}

func (w wire) checkWrong(t *testing.T, rows []wrong) {
	t.Helper()
	for _, r := range rows {
		s := schemaOf(t, r.schema)
		for _, b := range r.bytes {
			w.checkNone(t, s, b)
		}
	}
}
