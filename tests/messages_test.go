package tests

import (
	"math"
	"math/rand/v2"
	"reflect"
	"slices"
	"strings"
	"testing"

	"loop.example/g00774/impl"
)

// A message is a kind of messages, and the tests' own reading of its row.
type message struct {
	name   string
	kind   int64
	schema string
	// back answers the Items of what a value tells, as the tests write them
	// and as the program does, and the flag.
	back func(t *testing.T, v []impl.Item) ([]impl.Item, []impl.Item, bool)
}

var messages = []message{
	{"header", 1, "struct5 u64 u64 fixed32 fixed32 bytes20", backBy(impl.HeaderOf, impl.HeaderValue, headerItems)},
	{"commit", 2, "struct4 u64 u32 fixed32 list8 struct2 u32 fixed64", backBy(impl.CommitOf, impl.CommitValue, commitItems)},
	{"validators", 3, "struct2 u32 list8 struct2 fixed32 u64", backBy(impl.ValidatorsOf, impl.ValidatorsValue, validatorsItems)},
	{"proof", 4, "struct4 u32 u32 fixed32 list16 fixed32", backBy(impl.ProofOf, impl.ProofValue, proofItems)},
}

// noKinds are numbers of no kind of messages.
var noKinds = []int64{0, 5, 6, -1, -4, 256 + 1, 1<<32 + 1, math.MinInt64, math.MaxInt64}

func backBy[T any](of func([]impl.Item) (T, bool), value func(T) []impl.Item, items func(T) []impl.Item) func(*testing.T, []impl.Item) ([]impl.Item, []impl.Item, bool) {
	return func(t *testing.T, v []impl.Item) ([]impl.Item, []impl.Item, bool) {
		t.Helper()
		x, ok := of(v)
		if !ok {
			checkZero(t, x)
		}
		return items(x), value(x), ok
	}
}

func checkZero(t *testing.T, x any) {
	t.Helper()
	if !reflect.ValueOf(x).IsZero() {
		t.Fatalf("%v is told with false", x)
	}
}

func numberItem(n uint64) impl.Item {
	return impl.Item{Kind: 1, N: n}
}

func fixedItem(s string) impl.Item {
	return impl.Item{Kind: 4, S: s}
}

func headerItems(h impl.Header) []impl.Item {
	return []impl.Item{{Kind: 7, N: 5}, numberItem(h.Height), numberItem(h.Time), fixedItem(h.Parent), fixedItem(h.Root), {Kind: 3, S: h.App}}
}

func commitItems(c impl.Commit) []impl.Item {
	v := []impl.Item{{Kind: 7, N: 4}, numberItem(c.Height), numberItem(c.Round), fixedItem(c.Hash), {Kind: 5, N: uint64(len(c.Sigs))}}
	for _, x := range c.Sigs {
		v = append(v, impl.Item{Kind: 7, N: 2}, numberItem(x.Index), fixedItem(x.Sig))
	}
	return v
}

func validatorsItems(x impl.Validators) []impl.Item {
	v := []impl.Item{{Kind: 7, N: 2}, numberItem(x.Epoch), {Kind: 5, N: uint64(len(x.List))}}
	for _, x := range x.List {
		v = append(v, impl.Item{Kind: 7, N: 2}, fixedItem(x.Key), numberItem(x.Power))
	}
	return v
}

func proofItems(p impl.Proof) []impl.Item {
	v := []impl.Item{{Kind: 7, N: 4}, numberItem(p.Index), numberItem(p.Total), fixedItem(p.Leaf), {Kind: 5, N: uint64(len(p.Steps))}}
	for _, step := range p.Steps {
		v = append(v, fixedItem(step))
	}
	return v
}

// eachMessage hands on values of all kinds of messages.
func eachMessage(t *testing.T, do func(r *rand.Rand, m message, v []impl.Item)) {
	t.Helper()
	r := rand.New(rand.NewPCG(13, 14))
	for _, m := range messages {
		sh := shapeOf(t, m.schema)
		for range 400 {
			do(r, m, randomValue(r, sh))
		}
	}
}

func TestMessageSchemas(t *testing.T) {
	for _, m := range messages {
		s := impl.MsgSchema(m.kind)
		if text := impl.SchemaText(s); text != m.schema {
			t.Errorf("the schema of kind %d is %q", m.kind, text)
		}
		for format := int64(1); format <= 5; format++ {
			checkAdmits(t, format, s, true)
		}
		for _, format := range noFormats {
			checkAdmits(t, format, s, false)
		}
		clear(s)
		if text := impl.SchemaText(impl.MsgSchema(m.kind)); text != m.schema {
			t.Errorf("the schema of kind %d became %q", m.kind, text)
		}
	}
	for _, kind := range noKinds {
		if s := impl.MsgSchema(kind); len(s) != 0 {
			t.Errorf("kind %d has schema %v", kind, s)
		}
	}
}

func TestMessagesComeBackFromTheirValues(t *testing.T) {
	eachMessage(t, func(_ *rand.Rand, m message, v []impl.Item) {
		items, value, ok := m.back(t, v)
		if !ok || !slices.Equal(items, v) || !slices.Equal(value, v) {
			t.Fatalf("%s: %v tells %v, and is written as %v, %v", m.name, v, items, value, ok)
		}
	})
}

func TestMessagesOfAnotherKind(t *testing.T) {
	eachMessage(t, func(_ *rand.Rand, m message, v []impl.Item) {
		// A commit of no signatures and a proof of no steps may be one value.
		isBoth := (m.kind == impl.MgCommit || m.kind == impl.MgProof) && v[4].N == 0
		for _, other := range messages {
			if other.kind != m.kind && !isBoth {
				checkNotTold(t, other, v)
			}
		}
	})
	for _, height := range manyNumbers {
		v := impl.CommitValue(impl.Commit{Height: height, Round: 2, Hash: filled("h", 32)})
		p, ok := impl.ProofOf(v)
		if ok != isU32(height) {
			t.Errorf("%v is told as a proof: %v", v, ok)
		}
		if !ok {
			checkZero(t, p)
		} else if !slices.Equal(proofItems(p), v) {
			t.Errorf("%v is told as %v", v, p)
		}
	}
}

func checkNotTold(t *testing.T, m message, v []impl.Item) {
	t.Helper()
	if items, _, ok := m.back(t, v); ok {
		t.Fatalf("%s: %v tells %v", m.name, v, items)
	}
}

func TestSpoiledMessages(t *testing.T) {
	good, bad := 0, 0
	eachMessage(t, func(r *rand.Rand, m message, v []impl.Item) {
		sh := shapeOf(t, m.schema)
		for range 8 {
			other := spoil(r, v)
			if !isValue(sh, other) {
				bad++
				checkNotTold(t, m, other)
				continue
			}
			good++
			items, value, ok := m.back(t, other)
			if !ok || !slices.Equal(items, other) || !slices.Equal(value, other) {
				t.Fatalf("%s: %v tells %v, and is written as %v, %v", m.name, other, items, value, ok)
			}
		}
	})
	if good < 500 || bad < 500 {
		t.Errorf("%d values, %d others", good, bad)
	}
}

func TestMessagesWithAnItemLessOrMore(t *testing.T) {
	eachMessage(t, func(r *rand.Rand, m message, v []impl.Item) {
		if r.IntN(10) > 0 {
			return
		}
		for i := range v {
			checkNotTold(t, m, v[:i])
			checkNotTold(t, m, v[i+1:])
			checkNotTold(t, m, slices.Delete(slices.Clone(v), i, i+1))
			for kind := int64(-1); kind <= 10; kind++ {
				checkNotTold(t, m, slices.Insert(slices.Clone(v), i, impl.Item{Kind: kind}))
				other := slices.Clone(v)
				if other[i].Kind = kind; kind != v[i].Kind {
					checkNotTold(t, m, other)
				}
			}
		}
		for _, it := range append(slices.Clone(wrongItems), v...) {
			checkNotTold(t, m, append(slices.Clone(v), it))
		}
		checkNotTold(t, m, append(slices.Clone(v), v...))
		checkNotTold(t, m, append(slices.Clone(v), slices.Repeat(v, 100)...))
	})
	for _, m := range messages {
		checkNotTold(t, m, nil)
		checkNotTold(t, m, []impl.Item{})
		for _, it := range wrongItems {
			checkNotTold(t, m, []impl.Item{it})
		}
	}
}

func TestMessagesOnEachWire(t *testing.T) {
	eachMessage(t, func(r *rand.Rand, m message, v []impl.Item) {
		if r.IntN(4) > 0 {
			return
		}
		s, sh := impl.MsgSchema(m.kind), shapeOf(t, m.schema)
		bytes := map[int64]string{}
		for i, w := range wires {
			b, _ := w.of(sh, v)
			bytes[int64(i+1)] = string(b)
			checkWithin(t, int64(i+1), s, v, string(b))
			checkOther(t, int64(i+1), w, s, string(b)+"\x00")
			checkOther(t, int64(i+1), w, s, string(b[:len(b)-1]))
		}
		if r.IntN(10) == 0 {
			checkThrough(t, s, []int64{1, 2, 3, 4, 5}, bytes)
		}
	})
}

// checkMessage asks for a message's value, and for what that tells.
func checkMessage[T any](t *testing.T, x T, value func(T) []impl.Item, of func([]impl.Item) (T, bool), items func(T) []impl.Item, is bool) {
	t.Helper()
	v := value(x)
	if !is {
		if len(v) != 0 {
			t.Errorf("%v has value %v", x, v)
		}
		if told, ok := of(items(x)); ok {
			t.Errorf("%v is told as %v", items(x), told)
		} else {
			checkZero(t, told)
		}
		return
	}
	back, ok := of(v)
	if !slices.Equal(v, items(x)) || !ok || !slices.Equal(items(back), v) {
		t.Errorf("%v has value %v, which tells %v, %v", x, v, back, ok)
	}
}

func checkHeader(t *testing.T, h impl.Header, is bool) {
	t.Helper()
	checkMessage(t, h, impl.HeaderValue, impl.HeaderOf, headerItems, is)
}

func checkCommit(t *testing.T, c impl.Commit, is bool) {
	t.Helper()
	checkMessage(t, c, impl.CommitValue, impl.CommitOf, commitItems, is)
}

func checkValidators(t *testing.T, x impl.Validators, is bool) {
	t.Helper()
	checkMessage(t, x, impl.ValidatorsValue, impl.ValidatorsOf, validatorsItems, is)
}

func checkProof(t *testing.T, p impl.Proof, is bool) {
	t.Helper()
	checkMessage(t, p, impl.ProofValue, impl.ProofOf, proofItems, is)
}

func filled(letter string, n int) string {
	return strings.Repeat(letter, n)
}

// lengths are of texts around 20, 32 and 64 bytes, and others.
var lengths = []int{0, 1, 19, 20, 21, 31, 32, 33, 63, 64, 65, 200, 201, 100000}

// manyNumbers are around the ends of the types of messages' numbers.
var manyNumbers = []uint64{0, 1, 255, 1<<32 - 1, 1 << 32, 1<<32 + 1, 1 << 63, math.MaxUint64}

func isU32(n uint64) bool {
	return n <= math.MaxUint32
}

func TestHeadersAtTheirEdges(t *testing.T) {
	right := impl.Header{Height: 1, Time: 2, Parent: filled("p", 32), Root: filled("r", 32), App: "app"}
	checkHeader(t, right, true)
	checkHeader(t, impl.Header{}, false)
	for _, n := range manyNumbers {
		height, time := right, right
		height.Height, time.Time = n, n
		checkHeader(t, height, true)
		checkHeader(t, time, true)
	}
	for _, n := range lengths {
		parent, root, app := right, right, right
		parent.Parent, root.Root, app.App = filled("x", n), filled("x", n), filled("x", n)
		checkHeader(t, parent, n == 32)
		checkHeader(t, root, n == 32)
		checkHeader(t, app, n <= 20)
	}
}

func TestCommitsAtTheirEdges(t *testing.T) {
	sig := impl.Sig{Index: 3, Sig: filled("s", 64)}
	right := impl.Commit{Height: 1, Round: 2, Hash: filled("h", 32), Sigs: []impl.Sig{sig, sig}}
	checkCommit(t, right, true)
	checkCommit(t, impl.Commit{}, false)
	for _, n := range manyNumbers {
		height, round, index := right, right, right
		height.Height, round.Round = n, n
		checkCommit(t, height, true)
		checkCommit(t, round, isU32(n))
		for i := range 2 {
			index.Sigs = slices.Clone(right.Sigs)
			index.Sigs[i].Index = n
			checkCommit(t, index, isU32(n))
		}
	}
	for _, n := range lengths {
		hash, one := right, right
		hash.Hash = filled("x", n)
		checkCommit(t, hash, n == 32)
		for i := range 2 {
			one.Sigs = slices.Clone(right.Sigs)
			one.Sigs[i].Sig = filled("x", n)
			checkCommit(t, one, n == 64)
		}
	}
	for _, n := range []int{0, 1, 7, 8, 9, 10, 65, 66, 200, 201, 100000} {
		many := right
		many.Sigs = slices.Repeat([]impl.Sig{sig}, n)
		checkCommit(t, many, n <= 8)
		many.Sigs = make([]impl.Sig, n)
		checkCommit(t, many, n == 0)
	}
	right.Sigs = nil
	checkCommit(t, right, true)
}

func TestValidatorsAtTheirEdges(t *testing.T) {
	one := impl.Validator{Key: filled("k", 32), Power: 9}
	right := impl.Validators{Epoch: 7, List: []impl.Validator{one, one}}
	checkValidators(t, right, true)
	// Without a list, noughts are a value.
	checkValidators(t, impl.Validators{}, true)
	for _, n := range manyNumbers {
		epoch, power := right, right
		epoch.Epoch = n
		checkValidators(t, epoch, isU32(n))
		for i := range 2 {
			power.List = slices.Clone(right.List)
			power.List[i].Power = n
			checkValidators(t, power, true)
		}
	}
	for _, n := range lengths {
		key := right
		for i := range 2 {
			key.List = slices.Clone(right.List)
			key.List[i].Key = filled("x", n)
			checkValidators(t, key, n == 32)
		}
	}
	for _, n := range []int{0, 1, 7, 8, 9, 10, 65, 66, 200, 201, 100000} {
		many := right
		many.List = slices.Repeat([]impl.Validator{one}, n)
		checkValidators(t, many, n <= 8)
		many.List = make([]impl.Validator, n)
		checkValidators(t, many, n == 0)
	}
}

func TestProofsAtTheirEdges(t *testing.T) {
	right := impl.Proof{Index: 1, Total: 2, Leaf: filled("l", 32), Steps: []string{filled("a", 32), filled("b", 32)}}
	checkProof(t, right, true)
	checkProof(t, impl.Proof{}, false)
	for _, n := range manyNumbers {
		index, total := right, right
		index.Index, total.Total = n, n
		checkProof(t, index, isU32(n))
		checkProof(t, total, isU32(n))
	}
	for _, n := range lengths {
		leaf, step := right, right
		leaf.Leaf = filled("x", n)
		checkProof(t, leaf, n == 32)
		for i := range 2 {
			step.Steps = slices.Clone(right.Steps)
			step.Steps[i] = filled("x", n)
			checkProof(t, step, n == 32)
		}
	}
	for _, n := range []int{0, 1, 8, 15, 16, 17, 18, 194, 195, 196, 200, 201, 100000} {
		many := right
		many.Steps = slices.Repeat([]string{filled("z", 32)}, n)
		checkProof(t, many, n <= 16)
		many.Steps = make([]string, n)
		checkProof(t, many, n == 0)
	}
	right.Steps = nil
	checkProof(t, right, true)
}

// textsOf answers all texts of Items.
func textsOf(v []impl.Item) []string {
	var list []string
	for _, it := range v {
		list = append(list, it.S)
	}
	return list
}

func checkApart(t *testing.T, some, others []string) {
	t.Helper()
	for _, a := range some {
		for _, b := range others {
			if within(a, b) {
				t.Fatalf("%q shares memory with %q", a, b)
			}
		}
	}
}

func TestMessagesLeaveAlone(t *testing.T) {
	sigs := []impl.Sig{{Index: 3, Sig: filled("s", 64)}, {Index: 4, Sig: filled("t", 64)}, {Index: 5, Sig: "kept"}}
	list := []impl.Validator{{Key: filled("k", 32), Power: 9}, {Key: filled("m", 32), Power: 8}, {Key: "kept"}}
	steps := []string{filled("a", 32), filled("b", 32), "kept"}
	h := impl.Header{Height: 1, Time: 2, Parent: filled("p", 32), Root: filled("r", 32), App: "app"}
	c := impl.Commit{Height: 1, Round: 2, Hash: filled("h", 32), Sigs: sigs[:2]}
	x := impl.Validators{Epoch: 7, List: list[:2]}
	p := impl.Proof{Index: 1, Total: 2, Leaf: filled("l", 32), Steps: steps[:2]}
	checkAloneBy(t, h, impl.HeaderValue, impl.HeaderOf, headerItems)
	checkAloneBy(t, c, impl.CommitValue, impl.CommitOf, commitItems)
	checkAloneBy(t, x, impl.ValidatorsValue, impl.ValidatorsOf, validatorsItems)
	checkAloneBy(t, p, impl.ProofValue, impl.ProofOf, proofItems)
	if sigs[2].Sig != "kept" || list[2].Key != "kept" || steps[2] != "kept" {
		t.Errorf("%v, %v, %v became others", sigs, list, steps)
	}
	// What is told has lists of its own.
	v := impl.CommitValue(c)
	told, _ := impl.CommitOf(v)
	clear(told.Sigs)
	if again, ok := impl.CommitOf(v); !ok || !slices.Equal(again.Sigs, sigs[:2]) {
		t.Errorf("%v tells %v, %v", v, again, ok)
	}
}

// checkAloneBy makes each call twice, and clears what it answers.
func checkAloneBy[T any](t *testing.T, x T, value func(T) []impl.Item, of func([]impl.Item) (T, bool), items func(T) []impl.Item) {
	t.Helper()
	want := items(x)
	for range 2 {
		v := value(x)
		room := append(slices.Clone(v), impl.Item{Kind: 3, S: "kept"})
		kept := slices.Clone(room)
		for range 2 {
			told, ok := of(room[:len(v)])
			if !ok || !slices.Equal(items(told), want) || !slices.Equal(room, kept) {
				t.Fatalf("%v tells %v, %v, and became %v", kept, told, ok, room)
			}
			checkApart(t, textsOf(items(told)), textsOf(v))
		}
		if !slices.Equal(v, want) || !slices.Equal(items(x), want) {
			t.Fatalf("%v has value %v", x, v)
		}
		checkApart(t, textsOf(v), textsOf(want))
		clear(v)
	}
}
