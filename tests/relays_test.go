package tests

import (
	"math/rand/v2"
	"runtime"
	"slices"
	"strings"
	"sync"
	"testing"
	"time"
	"unsafe"

	"loop.example/g00774/impl"
)

// formatBytes is the tests' own reading of a message's bytes, by format.
func formatBytes(t *testing.T, m message, v []impl.Item) map[int64]string {
	t.Helper()
	sh, all := shapeOf(t, m.schema), map[int64]string{}
	for i, w := range wires {
		b, rest := w.of(sh, v)
		if len(rest) > 0 {
			t.Fatalf("%v is left of %v", rest, v)
		}
		all[int64(i+1)] = string(b)
	}
	return all
}

func checkTranslate(t *testing.T, kind, from, to int64, data string, want string, code int64) {
	t.Helper()
	if b, k := impl.Translate(kind, from, to, data); k != code || b != want {
		t.Fatalf("kind %d from %d to %d: %q becomes %q, %d, not %q, %d", kind, from, to, data, b, k, want, code)
	}
}

// checkTranslated asks for all ways from one of the formats to another one, and
// to the same.
func checkTranslated(t *testing.T, kind int64, all map[int64]string) {
	t.Helper()
	for from, data := range all {
		for to, other := range all {
			checkTranslate(t, kind, from, to, data, other, impl.RlOk)
		}
	}
}

func TestTranslateOneMessage(t *testing.T) {
	key, power := filled("k", 32), "\x00\x00\x00\x00\x00\x00\x01\x00"
	checkTranslated(t, impl.MgValidators, map[int64]string{
		1: "\xec\x07\xea\xe9\xa0" + key + "\x87\x01\x00\x00\x00\x00\x00\x00",
		2: "\x07\x00\x00\x00\x08\x00\x00\x00" + key + power,
		3: "\x07\x00\x00\x00\x04" + key + power,
		4: "\x08\x07\x12\x2a\x0a\x20" + key + "\x10\x80\x80\x80\x80\x80\x80\x40",
		5: "\x07\x00\x00\x00\x01" + key + power,
	})
	// Proto3 has no bytes for noughts.
	checkTranslated(t, impl.MgValidators, map[int64]string{
		1: "\xc2\x80\xc0", 2: "\x00\x00\x00\x00\x08\x00\x00\x00", 3: "\x00\x00\x00\x00\x00", 4: "", 5: "\x00\x00\x00\x00\x00",
	})
}

func TestTranslatedIsTranslatedBack(t *testing.T) {
	t.Parallel()
	eachMessage(t, func(r *rand.Rand, m message, v []impl.Item) {
		if r.IntN(4) > 0 {
			return
		}
		all := formatBytes(t, m, v)
		checkTranslated(t, m.kind, all)
		for from, data := range all {
			for to := int64(1); to <= 5; to++ {
				b, _ := impl.Translate(m.kind, from, to, data)
				checkTranslate(t, m.kind, to, from, b, data, impl.RlOk)
			}
		}
	})
}

func TestTranslateNoKindOrFormat(t *testing.T) {
	eachMessage(t, func(r *rand.Rand, m message, v []impl.Item) {
		if r.IntN(100) > 0 {
			return
		}
		for from, data := range formatBytes(t, m, v) {
			for to := int64(1); to <= 5; to++ {
				for _, kind := range noKinds {
					checkTranslate(t, kind, from, to, data, "", impl.RlForm)
					checkTranslate(t, kind, from, to, "", "", impl.RlForm)
				}
				for _, format := range noFormats {
					checkTranslate(t, m.kind, format, to, data, "", impl.RlForm)
					checkTranslate(t, m.kind, from, format, data, "", impl.RlForm)
					checkTranslate(t, m.kind, format, format, data, "", impl.RlForm)
				}
			}
		}
	})
}

// dataOfNone are bytes of no message in any format, as many as a frame may have
// among them.
var dataOfNone = []string{"\xff", "\x00", "\xff\xff", "\x80\x80", filled("\x00", 999), filled("\x00", 1000), filled("\xff", 1000), filled("\x0a", 1000)}

func TestTranslateDataOfNoValue(t *testing.T) {
	longer := []string{filled("\x00", 1001), filled("\x00", 9999), filled("\x00", 10000), filled("\x00", 10001), filled("\xff", 10001), filled("\x00", 100000)}
	for _, m := range messages {
		for from := int64(1); from <= 5; from++ {
			for to := int64(1); to <= 5; to++ {
				for _, data := range slices.Concat(dataOfNone, longer) {
					checkTranslate(t, m.kind, from, to, data, "", impl.RlForm)
				}
				// Only a set of validators has a value without bytes.
				if m.kind != impl.MgValidators || from != impl.FmProto {
					checkTranslate(t, m.kind, from, to, "", "", impl.RlForm)
				}
			}
		}
	}
}

func TestTranslateSpoiledData(t *testing.T) {
	t.Parallel()
	good, bad := 0, 0
	eachMessage(t, func(r *rand.Rand, m message, v []impl.Item) {
		if r.IntN(4) > 0 {
			return
		}
		s := impl.MsgSchema(m.kind)
		for from, data := range formatBytes(t, m, v) {
			others := []string{data + "\x00", data + filled("\x00", 1000), string(spoilBytes(r, []byte(data)))}
			if data != "" {
				others = append(others, data[:len(data)-1], data[1:])
			}
			for _, other := range others {
				back, ok := wires[from-1].dec(s, other)
				to := 1 + r.Int64N(5)
				if !ok {
					bad++
					checkTranslate(t, m.kind, from, to, other, "", impl.RlForm)
					continue
				}
				good++
				checkTranslate(t, m.kind, from, to, other, formatBytes(t, m, back)[to], impl.RlOk)
			}
		}
	})
	if good < 100 || bad < 1000 {
		t.Errorf("%d were values, %d were none", good, bad)
	}
}

func TestTranslateDataOfAnotherKind(t *testing.T) {
	eachMessage(t, func(r *rand.Rand, m message, v []impl.Item) {
		if r.IntN(10) > 0 {
			return
		}
		for from, data := range formatBytes(t, m, v) {
			for _, other := range messages {
				if _, ok := wires[from-1].dec(schemaOf(t, other.schema), data); !ok {
					checkTranslate(t, other.kind, from, 1+r.Int64N(5), data, "", impl.RlForm)
				}
			}
		}
	})
}

// largest answers the value of a shape that has the most bytes in every format.
func largest(sh shape) []impl.Item {
	it := impl.Item{Kind: sh.typ.Kind}
	switch sh.typ.Kind {
	case impl.TyUint:
		it.N = ^uint64(0) >> (64 - sh.typ.N)
	case impl.TyBytes, impl.TyFixed:
		it.S = filled("\xff", int(sh.typ.N))
	default:
		it.N = uint64(sh.typ.N)
	}
	v := []impl.Item{it}
	for _, part := range sh.under(it.N) {
		v = append(v, largest(part)...)
	}
	return v
}

// No message has as many bytes as a frame may have, in any format, so none is
// too long to be translated: the longest ones of all are.
func TestTranslateLongestMessages(t *testing.T) {
	longest := map[int64]map[int64]int{
		impl.MgHeader:     {1: 107, 2: 104, 3: 101, 4: 112, 5: 101},
		impl.MgCommit:     {1: 637, 2: 592, 3: 589, 4: 643, 5: 589},
		impl.MgValidators: {1: 355, 2: 328, 3: 325, 4: 382, 5: 325},
		impl.MgProof:      {1: 577, 2: 556, 3: 553, 4: 590, 5: 553},
	}
	most := 0
	for _, m := range messages {
		all := formatBytes(t, m, largest(shapeOf(t, m.schema)))
		for format, data := range all {
			if len(data) != longest[m.kind][format] {
				t.Errorf("the longest %s has %d bytes in format %d", m.name, len(data), format)
			}
			most = max(most, len(data))
		}
		checkTranslated(t, m.kind, all)
		for format, data := range all {
			to := 1 + format%5
			frame := bytesOf(impl.Frame{Format: format, Kind: m.kind, Data: data})
			checkRelayAll(t, to, frame, []impl.Out{{Data: bytesOf(impl.Frame{Format: to, Kind: m.kind, Data: all[to]})}}, true)
		}
	}
	if most >= 999 {
		t.Errorf("a message has %d bytes", most)
	}
}

// A piece is a frame, and what a relay tells of it, by the format it is for.
type piece struct {
	frame impl.Frame
	outs  map[int64]impl.Out
}

func rightPiece(t *testing.T, format int64, m message, v []impl.Item) piece {
	t.Helper()
	all := formatBytes(t, m, v)
	p := piece{impl.Frame{Format: format, Kind: m.kind, Data: all[format]}, map[int64]impl.Out{}}
	for to, data := range all {
		p.outs[to] = impl.Out{Data: bytesOf(impl.Frame{Format: to, Kind: m.kind, Data: data})}
	}
	return p
}

func wrongPiece(format, kind int64, data string) piece {
	p := piece{impl.Frame{Format: format, Kind: kind, Data: data}, map[int64]impl.Out{}}
	for to := int64(1); to <= 5; to++ {
		p.outs[to] = impl.Out{Code: impl.RlForm}
	}
	return p
}

func randomPiece(t *testing.T, r *rand.Rand) piece {
	t.Helper()
	format, m := 1+r.Int64N(5), messages[r.IntN(len(messages))]
	if r.IntN(3) == 0 {
		return wrongPiece(format, m.kind, dataOfNone[r.IntN(len(dataOfNone))])
	}
	return rightPiece(t, format, m, randomValue(r, shapeOf(t, m.schema)))
}

func randomPieces(t *testing.T, r *rand.Rand, n int) []piece {
	t.Helper()
	var pieces []piece
	for range n {
		pieces = append(pieces, randomPiece(t, r))
	}
	return pieces
}

func streamOf(pieces []piece) string {
	var b strings.Builder
	for _, p := range pieces {
		b.WriteString(bytesOf(p.frame))
	}
	return b.String()
}

func outsOf(pieces []piece, to int64) []impl.Out {
	var outs []impl.Out
	for _, p := range pieces {
		outs = append(outs, p.outs[to])
	}
	return outs
}

// streamTails are what may stand behind the last frame: beginnings of a frame,
// and bytes that are none, even with a frame behind them.
var streamTails = []struct {
	b    string
	good bool
}{
	{"", true}, {"\x01", true}, {"\x05\x04", true}, {"\x05\x04\xff", true}, {"\x02\x02\x05abcd", true}, {"\x01\x01\xe8\x07" + filled("x", 999), true},
	{"\x00", false}, {"\x06", false}, {"\x01\x00", false}, {"\x01\x05", false}, {"\x01\x01\x80\x00", false}, {"\x01\x01\x80\x80", false}, {"\x01\x01\xe9\x07", false}, {"\x00\x04\x03\x00", false}, {filled("\x00", 4000), false},
}

func checkRelayFeed(t *testing.T, r impl.Relay, chunk string, want impl.Relay, outs []impl.Out) {
	t.Helper()
	next, list, ok := impl.RelayFeed(r, chunk)
	if !ok || next != want || !slices.Equal(list, outs) {
		t.Fatalf("%#v, fed with %q, is %#v and tells %#v, %v, not %#v and %#v", r, chunk, next, list, ok, want, outs)
	}
}

func checkNotRelayed(t *testing.T, r impl.Relay, chunk string) {
	t.Helper()
	if next, list, ok := impl.RelayFeed(r, chunk); ok || next != (impl.Relay{}) || len(list) != 0 {
		t.Fatalf("%#v, fed with %d bytes, is %#v and tells %d, %v", r, len(chunk), next, len(list), ok)
	}
}

func checkRelayAll(t *testing.T, to int64, b string, outs []impl.Out, good bool) {
	t.Helper()
	if list, ok := impl.RelayAll(to, b); ok != good || !slices.Equal(list, outs) {
		t.Fatalf("%q to %d tells %#v, %v, not %#v, %v", b, to, list, ok, outs, good)
	}
}

// relayedIn feeds a relay with chunks one by one.
func relayedIn(t *testing.T, r impl.Relay, chunks []string) ([]impl.Out, impl.Relay) {
	t.Helper()
	var all []impl.Out
	for _, chunk := range chunks {
		next, outs, ok := impl.RelayFeed(r, chunk)
		if !ok {
			t.Fatalf("%#v refuses %q", r, chunk)
		}
		all = append(all, outs...)
		r = next
	}
	return all, r
}

func TestRelayOfFewFrames(t *testing.T) {
	key := filled("k", 32)
	ssz := "\x02\x03\x30" + "\x07\x00\x00\x00\x08\x00\x00\x00" + key + "\x09\x00\x00\x00\x00\x00\x00\x00"
	rlp := impl.Out{Data: "\x01\x03\x26" + "\xe5\x07\xe3\xe2\xa0" + key + "\x09"}
	wrong, refused := "\x02\x03\x02\x07\x00", impl.Out{Code: impl.RlForm}
	for _, r := range []struct {
		b    string
		outs []impl.Out
		good bool
	}{
		{"", nil, true}, {ssz, []impl.Out{rlp}, true}, {wrong, []impl.Out{refused}, true},
		{ssz + ssz, []impl.Out{rlp, rlp}, true}, {wrong + ssz, []impl.Out{refused, rlp}, true}, {ssz + wrong + ssz, []impl.Out{rlp, refused, rlp}, true}, {ssz + wrong, []impl.Out{rlp, refused}, true},
		{wrong + wrong + ssz + wrong + wrong, []impl.Out{refused, refused, rlp, refused, refused}, true},
		{ssz[:50], nil, true}, {ssz + ssz[:50], []impl.Out{rlp}, true}, {ssz + wrong[:4], []impl.Out{rlp}, true},
		{"\x00", nil, false}, {ssz + "\x00", []impl.Out{rlp}, false}, {wrong + "\x06" + ssz, []impl.Out{refused}, false}, {ssz + "\x02\x05" + ssz, []impl.Out{rlp}, false}, {"\x02\x03\x80\x00" + ssz, nil, false},
	} {
		checkRelayAll(t, impl.FmRlp, r.b, r.outs, r.good)
		_, left := framesIn(r.b)
		checkRelayFeed(t, impl.Relay{To: impl.FmRlp}, r.b, impl.Relay{To: impl.FmRlp, F: left}, r.outs)
	}
}

func TestRelayEachFormatAndKind(t *testing.T) {
	r := rand.New(rand.NewPCG(31, 32))
	for format := int64(1); format <= 5; format++ {
		for _, m := range messages {
			right := rightPiece(t, format, m, randomValue(r, shapeOf(t, m.schema)))
			for _, data := range dataOfNone {
				wrong := wrongPiece(format, m.kind, data)
				for _, pieces := range [][]piece{{right}, {wrong}, {wrong, right}, {right, wrong}, {right, wrong, right}, {right, right, right}} {
					b := streamOf(pieces)
					for to := int64(1); to <= 5; to++ {
						want := impl.Relay{To: to, F: impl.Framer{At: 11 + int64(len(b))}}
						checkRelayFeed(t, impl.Relay{To: to, F: impl.Framer{At: 11}}, b, want, outsOf(pieces, to))
						checkRelayAll(t, to, b, outsOf(pieces, to), true)
					}
				}
			}
		}
	}
}

func TestRelayInChunks(t *testing.T) {
	t.Parallel()
	r := rand.New(rand.NewPCG(33, 34))
	for i := range 3 * len(streamTails) {
		tail, to := streamTails[i%len(streamTails)], 1+r.Int64N(5)
		pieces := randomPieces(t, r, r.IntN(4))
		b, outs := streamOf(pieces)+tail.b, outsOf(pieces, to)
		checkRelayAll(t, to, b, outs, tail.good)
		_, left := framesIn(b)
		if left.Bad == tail.good {
			t.Fatalf("%q is bad: %v", b, left.Bad)
		}
		for _, chunks := range cutsOf(r, b) {
			list, relay := relayedIn(t, impl.Relay{To: to}, chunks)
			if !slices.Equal(list, outs) || relay != (impl.Relay{To: to, F: left}) {
				t.Fatalf("%q in chunks %q tells %#v and is left as %#v, not %#v and %#v", b, chunks, list, relay, outs, left)
			}
		}
	}
}

// A frame is for the format that To is when its last byte comes.
func TestRelayWithAnotherTo(t *testing.T) {
	r := rand.New(rand.NewPCG(35, 36))
	for _, p := range randomPieces(t, r, 40) {
		b := bytesOf(p.frame)
		half, rest := b[:len(b)/2], b[len(b)/2:]
		for one := int64(1); one <= 5; one++ {
			for two := int64(1); two <= 5; two++ {
				begun, _, _ := impl.RelayFeed(impl.Relay{To: one}, half)
				begun.To = two
				checkRelayFeed(t, begun, rest, impl.Relay{To: two, F: impl.Framer{At: int64(len(b))}}, []impl.Out{p.outs[two]})
			}
		}
	}
}

func TestRelayRefuses(t *testing.T) {
	r := rand.New(rand.NewPCG(37, 38))
	p := randomPiece(t, r)
	b := bytesOf(p.frame)
	for _, to := range noFormats {
		for _, f := range []impl.Framer{{}, {Buf: b[:2], At: 7}, {Bad: true}, {At: -1}, {Buf: b}} {
			for _, chunk := range []string{"", b, "\x00", filled("\x00", 4001)} {
				checkNotRelayed(t, impl.Relay{To: to, F: f}, chunk)
			}
		}
		for _, s := range []string{"", b, b + "\x00", b + b[:1]} {
			checkRelayAll(t, to, s, nil, false)
		}
	}
	for to := int64(1); to <= 5; to++ {
		for _, f := range []impl.Framer{{At: -1}, {At: 1000000001}, {Buf: "\x00"}, {Buf: b}, {Buf: b + "\x01"}, {Buf: "\x01", Bad: true}, {Buf: "\x01\x01\x80\x00"}} {
			for _, chunk := range []string{"", b, b + b} {
				checkNotRelayed(t, impl.Relay{To: to, F: f}, chunk)
			}
		}
		for _, f := range []impl.Framer{{}, {Buf: "\x01", At: 9}, {Bad: true}} {
			checkNotRelayed(t, impl.Relay{To: to, F: f}, b+filled("\x00", 4001-len(b)))
			checkNotRelayed(t, impl.Relay{To: to, F: f}, filled("\x01", 100000))
		}
	}
}

func TestRelayAtItsEdges(t *testing.T) {
	r := rand.New(rand.NewPCG(39, 40))
	const last = 1000000000
	for range 20 {
		p, to := randomPiece(t, r), 1+r.Int64N(5)
		b, outs := bytesOf(p.frame), []impl.Out{p.outs[to]}
		size := int64(len(b))
		at := func(n int64) impl.Relay { return impl.Relay{To: to, F: impl.Framer{At: n}} }
		checkRelayFeed(t, at(0), "", at(0), nil)
		checkRelayFeed(t, at(last), "", at(last), nil)
		checkRelayFeed(t, at(last-size), b, at(last), outs)
		checkNotRelayed(t, at(last-size+1), b)
		checkNotRelayed(t, at(last-2*size+1), b+b)
		checkNotRelayed(t, at(last), b)
		waiting := impl.Relay{To: to, F: impl.Framer{Buf: b[:2], At: last}}
		checkRelayFeed(t, at(last), b[:2], waiting, nil)
		checkNotRelayed(t, waiting, b[2:])
		bad := impl.Relay{To: to, F: impl.Framer{At: size, Bad: true}}
		checkRelayFeed(t, at(0), b+filled("\x00", 4000-len(b)), bad, outs)
		for _, chunk := range []string{"", b, b[:1], "\x00", filled("\x01", 4000)} {
			checkRelayFeed(t, bad, chunk, bad, nil)
		}
	}
}

func TestRelayOfManyFramesInOrder(t *testing.T) {
	t.Parallel()
	r := rand.New(rand.NewPCG(41, 42))
	pieces := randomPieces(t, r, 1500)
	b := streamOf(pieces)
	for _, tail := range streamTails {
		checkRelayAll(t, impl.FmScale, b+tail.b, outsOf(pieces, impl.FmScale), tail.good)
	}
	// A chunk of as many frames as it may have, each one unlike the next.
	small := rightPiece(t, impl.FmProto, messages[2], impl.ValidatorsValue(impl.Validators{}))
	var many []piece
	for len(many) < 1300 {
		many = append(many, small, wrongPiece(impl.FmRlp, impl.MgHeader, ""))
	}
	chunk := streamOf(many)
	want := impl.Relay{To: impl.FmRlp, F: impl.Framer{At: int64(len(chunk))}}
	for range 20 {
		checkRelayFeed(t, impl.Relay{To: impl.FmRlp}, chunk, want, outsOf(many, impl.FmRlp))
	}
	// However many relays run at the same time.
	var all sync.WaitGroup
	told := make([][]impl.Out, 16)
	for i := range told {
		all.Go(func() { told[i], _ = impl.RelayAll(int64(1+i%5), b) })
	}
	all.Wait()
	for i, outs := range told {
		if !slices.Equal(outs, outsOf(pieces, int64(1+i%5))) {
			t.Errorf("relay %d tells %d, of %d frames", i, len(outs), len(pieces))
		}
	}
}

// RelayAll takes more bytes than a chunk may have, and tells of all of them.
func TestRelayAllAroundWholeChunks(t *testing.T) {
	small := rightPiece(t, impl.FmProto, messages[2], impl.ValidatorsValue(impl.Validators{}))
	whole := []piece{wrongPiece(impl.FmSsz, impl.MgProof, filled("x", 993)), small}
	next := bytesOf(impl.Frame{Format: 1, Kind: 1, Data: filled("x", 1000)})
	for _, chunks := range []int{1, 2, 3, 10} {
		pieces := slices.Repeat(whole, 4*chunks)
		b := streamOf(pieces)
		if len(b) != 4000*chunks {
			t.Fatalf("%d bytes", len(b))
		}
		for to := int64(1); to <= 5; to++ {
			outs := outsOf(pieces, to)
			for n := range 4 {
				checkRelayAll(t, to, b+next[:n], outs, true)
				checkRelayAll(t, to, b[:len(b)-3]+"\x01\x01\x01\x01"[:n], outs[:len(outs)-1], true)
				checkRelayAll(t, to, b+filled("\x00", n+1), outs, false)
			}
		}
	}
}

// Bytes behind what is no frame are not looked at, so as many as there may be
// take no time.
func TestRelayAllOfTheMostBytes(t *testing.T) {
	p := wrongPiece(impl.FmRlp, impl.MgHeader, "x")
	room := make([]byte, 1000000002)
	copy(room, bytesOf(p.frame))
	b := unsafe.String(&room[0], len(room))
	for to := int64(1); to <= 5; to++ {
		for n, outs := range map[int][]impl.Out{999999999: outsOf([]piece{p}, to), 1000000000: outsOf([]piece{p}, to), 1000000001: nil, 1000000002: nil} {
			if list, good := impl.RelayAll(to, b[:n]); good || !slices.Equal(list, outs) {
				t.Errorf("%d bytes to %d tell %#v, %v, not %#v", n, to, list, good, outs)
			}
		}
	}
}

// settled waits until there are no more goroutines than that, as one that is
// done may still be there for a while.
func settled(most int) bool {
	for range 1000 {
		if runtime.NumGoroutine() <= most {
			return true
		}
		time.Sleep(5 * time.Millisecond)
	}
	return false
}

func TestRelayLeavesNoGoroutine(t *testing.T) {
	r := rand.New(rand.NewPCG(43, 44))
	b := streamOf(randomPieces(t, r, 4))
	before := runtime.NumGoroutine()
	for range 200 {
		impl.RelayAll(impl.FmSsz, b+"\x00"+b)
		impl.RelayFeed(impl.Relay{To: impl.FmSsz, F: impl.Framer{At: 1000000000 - 1}}, b)
		impl.RelayFeed(impl.Relay{To: impl.FmSsz, F: impl.Framer{At: -1}}, b)
		impl.RelayFeed(impl.Relay{To: impl.FmSsz}, filled("\x01", 4001))
		impl.RelayFeed(impl.Relay{To: 0}, b)
	}
	if !settled(before) {
		t.Errorf("%d goroutines, at first %d", runtime.NumGoroutine(), before)
	}
}

func TestRelaysLeaveAlone(t *testing.T) {
	r := rand.New(rand.NewPCG(45, 46))
	for range 100 {
		pieces, to := randomPieces(t, r, 3), 1+r.Int64N(5)
		b := streamOf(pieces)
		cut := r.IntN(len(bytesOf(pieces[0].frame)))
		relay, chunk := impl.Relay{To: to, F: impl.Framer{Buf: strings.Clone(b[:cut]), At: 5}}, b[cut:]+b[:cut]
		relayBefore, chunkBefore := impl.Relay{To: to, F: impl.Framer{Buf: b[:cut], At: 5}}, strings.Clone(chunk)
		first, outs, ok := impl.RelayFeed(relay, chunk)
		second, again, is := impl.RelayFeed(relay, chunk)
		if !ok || !is || first != second || !slices.Equal(outs, again) || relay != relayBefore || chunk != chunkBefore {
			t.Fatalf("%#v, fed with %q, tells %#v, then %#v", relay, chunk, outs, again)
		}
		checkNewOuts(t, outs, first.F.Buf, relay.F.Buf, chunk)
		clear(outs)
		if !slices.Equal(again, outsOf(pieces, to)) {
			t.Fatalf("%#v became %#v", outsOf(pieces, to), again)
		}
		told, _ := impl.RelayAll(to, b)
		checkNewOuts(t, told, "", b)
		clear(told)
		checkRelayAll(t, to, b, outsOf(pieces, to), true)
		checkTranslateLeavesAlone(t, pieces[0].frame, to)
	}
}

func checkTranslateLeavesAlone(t *testing.T, f impl.Frame, to int64) {
	t.Helper()
	data := strings.Clone(f.Data)
	one, code := impl.Translate(f.Kind, f.Format, to, f.Data)
	two, again := impl.Translate(f.Kind, f.Format, to, f.Data)
	if one != two || code != again || f.Data != data {
		t.Fatalf("%#v becomes %q, %d, then %q, %d", f, one, code, two, again)
	}
	checkApart(t, []string{one}, []string{two, f.Data})
}

// checkNewOuts asks whether what is told, and what is left, share memory with
// nothing given, nor with each other.
func checkNewOuts(t *testing.T, outs []impl.Out, left string, given ...string) {
	t.Helper()
	texts := []string{left}
	for _, out := range outs {
		texts = append(texts, out.Data)
	}
	checkNewTexts(t, texts, given)
}
