package tests

import (
	"encoding/binary"
	"math"
	"math/rand/v2"
	"slices"
	"strings"
	"testing"

	"loop.example/g00774/impl"
)

// frameHeads tells of each head of a frame how many bytes of data stand behind
// it; headsBegun has what these begin with.
var frameHeads, headsBegun = allHeads()

func allHeads() (map[string]int, map[string]bool) {
	whole, begun := map[string]int{}, map[string]bool{}
	for format := byte(1); format <= 5; format++ {
		for kind := byte(1); kind <= 4; kind++ {
			for n := range 1001 {
				head := binary.AppendUvarint([]byte{format, kind}, uint64(n))
				whole[string(head)] = n
				for i := range head {
					begun[string(head[:i])] = true
				}
			}
		}
	}
	return whole, begun
}

// frameIn is the tests' own reading of a frame: the one with which b begins,
// and how many bytes it has, 0 when there is none, and whether one may come.
func frameIn(b string) (impl.Frame, int, bool) {
	for k := 3; k <= min(4, len(b)); k++ {
		n, ok := frameHeads[b[:k]]
		switch {
		case ok && len(b) < k+n:
			return impl.Frame{}, 0, true
		case ok:
			return impl.Frame{Format: int64(b[0]), Kind: int64(b[1]), Data: b[k : k+n]}, k + n, true
		}
	}
	return impl.Frame{}, 0, len(b) < 4 && headsBegun[b]
}

// framesIn answers the frames with which b begins, and the framer behind them.
func framesIn(b string) ([]impl.Frame, impl.Framer) {
	var list []impl.Frame
	at := 0
	for {
		f, n, good := frameIn(b[at:])
		switch {
		case n > 0:
			list = append(list, f)
			at += n
		case good:
			return list, impl.Framer{Buf: b[at:], At: int64(at)}
		default:
			return list, impl.Framer{At: int64(at), Bad: true}
		}
	}
}

func bytesOf(f impl.Frame) string {
	return string(binary.AppendUvarint([]byte{byte(f.Format), byte(f.Kind)}, uint64(len(f.Data)))) + f.Data
}

// frameSizes are those at which the form of a length changes, and others.
var frameSizes = []int{0, 1, 2, 3, 126, 127, 128, 129, 130, 255, 256, 257, 895, 896, 998, 999, 1000}

// eachFrame hands on frames of every format, kind and form of a length.
func eachFrame(do func(f impl.Frame)) {
	for format := int64(1); format <= 5; format++ {
		for kind := int64(1); kind <= 4; kind++ {
			for _, size := range frameSizes {
				do(impl.Frame{Format: format, Kind: kind, Data: strings.Repeat("\x01\x02\x00\xff", 250)[:size]})
			}
		}
	}
}

func checkFramer(t *testing.T, f impl.Framer, want bool) {
	t.Helper()
	if ok := impl.FramerOk(f); ok != want {
		t.Fatalf("a framer of %q, %d, %v is right: %v", f.Buf, f.At, f.Bad, ok)
	}
	if want {
		return
	}
	for _, chunk := range []string{"", "\x01", "\x01\x01\x00"} {
		checkNotFed(t, f, chunk)
	}
}

func checkNotFed(t *testing.T, f impl.Framer, chunk string) {
	t.Helper()
	if next, list, ok := impl.Feed(f, chunk); ok || next != (impl.Framer{}) || len(list) != 0 {
		t.Fatalf("%#v, fed with %d bytes, is %#v and tells %d frames, %v", f, len(chunk), next, len(list), ok)
	}
}

func checkFed(t *testing.T, f impl.Framer, chunk string, want impl.Framer, frames ...impl.Frame) {
	t.Helper()
	next, list, ok := impl.Feed(f, chunk)
	if !ok || next != want || !slices.Equal(list, frames) {
		t.Fatalf("%#v, fed with %q, is %#v and tells %#v, %v, not %#v and %#v", f, chunk, next, list, ok, want, frames)
	}
	checkFramer(t, next, true)
}

func checkFramesOf(t *testing.T, b string, frames []impl.Frame, end int64) {
	t.Helper()
	if list, at := impl.FramesOf(b); at != end || !slices.Equal(list, frames) {
		t.Fatalf("%q begins with %#v up to %d, not with %#v up to %d", b, list, at, frames, end)
	}
}

// checkBytes asks for all that bytes, to which no others come, are.
func checkBytes(t *testing.T, b string) {
	t.Helper()
	frames, left := framesIn(b)
	checkFramesOf(t, b, frames, left.At)
	checkFramer(t, impl.Framer{Buf: b}, left == impl.Framer{Buf: b})
	if len(b) <= 4000 {
		checkFed(t, impl.Framer{}, b, left, frames...)
	}
}

func TestBytesOfFrames(t *testing.T) {
	for _, r := range []struct {
		format, kind int64
		size         int
		head         string
	}{
		{1, 1, 0, "\x01\x01\x00"}, {1, 4, 1, "\x01\x04\x01"}, {5, 1, 127, "\x05\x01\x7f"}, {5, 4, 128, "\x05\x04\x80\x01"}, {3, 2, 130, "\x03\x02\x82\x01"}, {2, 3, 255, "\x02\x03\xff\x01"}, {4, 3, 256, "\x04\x03\x80\x02"}, {1, 1, 999, "\x01\x01\xe7\x07"}, {5, 4, 1000, "\x05\x04\xe8\x07"},
	} {
		f := impl.Frame{Format: r.format, Kind: r.kind, Data: filled("d", r.size)}
		if b := impl.FrameBytes(f); b != r.head+f.Data {
			t.Errorf("format %d, kind %d, %d bytes: %q", r.format, r.kind, r.size, b)
		}
		checkBytes(t, r.head+f.Data)
	}
	eachFrame(func(f impl.Frame) {
		b := impl.FrameBytes(f)
		if b != bytesOf(f) {
			t.Fatalf("%#v has bytes %q", f, b)
		}
		end := int64(len(b))
		checkFramesOf(t, b, []impl.Frame{f}, end)
		checkFed(t, impl.Framer{}, b, impl.Framer{At: end}, f)
		for _, tail := range tails {
			checkBytes(t, b+tail)
		}
		checkFed(t, impl.Framer{At: 7}, b+b+b, impl.Framer{At: 7 + 3*end}, f, f, f)
	})
}

func TestFramesThatAreNone(t *testing.T) {
	check := func(f impl.Frame) {
		t.Helper()
		if b := impl.FrameBytes(f); b != "" {
			t.Errorf("format %d, kind %d, %d bytes: %q", f.Format, f.Kind, len(f.Data), b)
		}
	}
	check(impl.Frame{})
	for _, size := range []int{0, 1, 1000, 1001} {
		for _, format := range noFormats {
			check(impl.Frame{Format: format, Kind: 1, Data: filled("d", size)})
		}
		for _, kind := range noKinds {
			check(impl.Frame{Format: 1, Kind: kind, Data: filled("d", size)})
		}
	}
	for _, size := range []int{1001, 1002, 1023, 1024, 2000, 16384, 100000} {
		check(impl.Frame{Format: 1, Kind: 1, Data: filled("d", size)})
		check(impl.Frame{Format: 5, Kind: 4, Data: filled("d", size)})
	}
}

func TestBeginningsOfFrames(t *testing.T) {
	eachFrame(func(f impl.Frame) {
		b := bytesOf(f)
		for i := range b {
			// Of many bytes of data not all places, but the first and the last.
			if i > 8 && i%97 > 0 && i < len(b)-3 {
				continue
			}
			right := impl.Framer{Buf: b[:i], At: int64(i)}
			checkFramer(t, right, true)
			checkFed(t, right, "", right)
			checkFed(t, right, b[i:], impl.Framer{At: int64(i + len(b))}, f)
			checkFed(t, right, b[i:]+b[:i], impl.Framer{Buf: b[:i], At: int64(i + len(b))}, f)
			checkFramesOf(t, b[:i], nil, 0)
		}
		for _, tail := range tails {
			checkFramer(t, impl.Framer{Buf: b + tail}, false)
		}
		checkFramer(t, impl.Framer{Buf: b + b}, false)
	})
}

func TestFewBytesAsFrames(t *testing.T) {
	t.Parallel()
	checkBytes(t, "")
	for first := range 256 {
		checkBytes(t, string([]byte{byte(first)}))
		for second := range 256 {
			b := []byte{byte(first), byte(second)}
			checkBytes(t, string(b))
			checkBytes(t, string(append(b, 0)))
			checkBytes(t, string(append(b, 0x80)))
		}
	}
	for _, head := range []string{"\x01\x01", "\x05\x04", "\x03\x02", "\x01\x04", "\x05\x01", "\x00\x01", "\x06\x01", "\x01\x00", "\x01\x05"} {
		for third := range 256 {
			b := head + string([]byte{byte(third)})
			checkBytes(t, b)
			for fourth := range 256 {
				checkBytes(t, b+string([]byte{byte(fourth)}))
			}
		}
	}
}

func TestWhenItIsKnownThatNoFrameComes(t *testing.T) {
	ahead := impl.Frame{Format: 2, Kind: 3, Data: "\x00\x06\xff"}
	const never = -1
	for _, r := range []struct {
		b  string
		at int
	}{
		{"\x00\x01\x01x", 0}, {"\x06\x01\x01x", 0}, {"\xff\x01\x01x", 0}, {"\x80\x01\x01x", 0}, {"\x81\x01\x01x", 0},
		{"\x01\x00\x01x", 1}, {"\x01\x05\x01x", 1}, {"\x05\x05\x01x", 1}, {"\x05\x80\x01x", 1}, {"\x05\x81\x01x", 1},
		// A byte more than the length needs.
		{"\x01\x01\x80\x00x", 3}, {"\x01\x01\x81\x00x", 3}, {"\x05\x04\xff\x00x", 3}, {"\x05\x04\x80\x80\x00x", 3}, {"\x05\x04\x80\x81\x00x", 3},
		// More than a frame has, from the last byte of the length on.
		{"\x01\x01\xe9\x07x", 3}, {"\x01\x01\xff\x07x", 3}, {"\x01\x01\x80\x08x", 3}, {"\x01\x01\x80\x7fx", 3},
		// More than a frame has, whatever comes behind.
		{"\x01\x01\x80\x80\x01x", 3}, {"\x01\x01\xe8\x87\x00x", 3}, {"\x01\x01\x80\x81\x80\x01", 3}, {"\x01\x01\xff\xff\xff\xff\xff\xff\xff\xff\xff\x01", 3},
		{"\x01\x01\xe8\x07xx", never}, {"\x01\x01\xe7\x07xx", never}, {"\x01\x01\xff\x06xx", never}, {"\x05\x04\x80\x01xx", never}, {"\x05\x04\xff", never}, {"\x05\x04\x80", never}, {"\x05\x04\x7fxx", never}, {"\x05\x04", never}, {"\x05", never},
	} {
		for _, prefix := range []string{"", bytesOf(ahead), bytesOf(ahead) + "\x04\x04\x00"} {
			f := impl.Framer{At: 5}
			for i := range prefix {
				f, _, _ = impl.Feed(f, prefix[i:i+1])
			}
			end := int64(5 + len(prefix))
			for i := range r.b {
				want := impl.Framer{Buf: r.b[:i+1], At: end}
				if r.at != never && i >= r.at {
					want = impl.Framer{At: end, Bad: true}
				}
				checkFed(t, f, r.b[i:i+1], want)
				checkFed(t, impl.Framer{At: end}, r.b[:i+1], want)
				f = want
			}
		}
	}
}

// notAt are numbers that are no At.
var notAt = []int64{-1, -2, 1000000001, 1000000002, 1 << 32, math.MinInt64, math.MaxInt64}

func TestFramersAtTheirEdges(t *testing.T) {
	checkFramer(t, impl.Framer{}, true)
	frame := "\x01\x02\x03abc"
	for _, buf := range []string{"", "\x01", "\x05\x04", "\x01\x02\xe8", frame[:5]} {
		for _, at := range []int64{0, 1, 999999999, 1000000000} {
			checkFramer(t, impl.Framer{Buf: buf, At: at}, true)
			checkFramer(t, impl.Framer{Buf: buf, At: at, Bad: true}, buf == "")
		}
		for _, at := range notAt {
			checkFramer(t, impl.Framer{Buf: buf, At: at}, false)
			checkFramer(t, impl.Framer{Buf: buf, At: at, Bad: true}, false)
		}
	}
	for _, buf := range []string{frame, frame + "\x01", frame + frame, frame + "\x00", "\x00", "\x06", "\x01\x00", "\x01\x05", "\x01\x01\x00", "\x01\x01\x80\x00", "\x01\x01\x80\x80", "\x01\x01\xe9\x07", "\x01\x01\xe8\x07" + filled("x", 1000), "\x01\x01\xe8\x07" + filled("x", 1001), filled("\x01", 100000), filled("\x00", 100000)} {
		for _, at := range []int64{-1, 0, 1000000000} {
			checkFramer(t, impl.Framer{Buf: buf, At: at}, false)
			checkFramer(t, impl.Framer{Buf: buf, At: at, Bad: true}, false)
		}
	}
	checkFramer(t, impl.Framer{Buf: "\x01\x01\xe8\x07" + filled("x", 999)}, true)
}

func TestChunksAtTheirEdges(t *testing.T) {
	frame := impl.Frame{Format: 4, Kind: 2, Data: filled("x", 996)}
	four := strings.Repeat(bytesOf(frame), 4)
	if len(four) != 4000 {
		t.Fatalf("%d bytes", len(four))
	}
	checkFed(t, impl.Framer{}, "", impl.Framer{})
	checkFed(t, impl.Framer{}, four[:3999], impl.Framer{Buf: four[:999], At: 3000}, frame, frame, frame)
	checkFed(t, impl.Framer{}, four, impl.Framer{At: 4000}, frame, frame, frame, frame)
	checkFed(t, impl.Framer{Buf: four[:999]}, four[999:]+four[:999], impl.Framer{Buf: four[:999], At: 4000}, frame, frame, frame, frame)
	checkFed(t, impl.Framer{}, filled("\x00", 4000), impl.Framer{Bad: true})
	// As many frames as a chunk may have.
	none := impl.Frame{Format: 1, Kind: 1}
	checkFed(t, impl.Framer{Buf: "\x01\x01"}, "\x00"+strings.Repeat("\x01\x01\x00", 1333), impl.Framer{At: 4002}, slices.Repeat([]impl.Frame{none}, 1334)...)
	for _, chunk := range []string{four + "\x04", four + "\x00", four + four, filled("\x00", 4001), filled("\x01", 100000)} {
		for _, f := range []impl.Framer{{}, {At: 9}, {Buf: "\x04"}, {Buf: four[:999], At: 1000000000}, {Bad: true}, {At: 9, Bad: true}} {
			checkNotFed(t, f, chunk)
		}
	}
}

func TestAtTheLastAt(t *testing.T) {
	const last = 1000000000
	frame := impl.Frame{Format: 4, Kind: 2, Data: "abc"}
	b := bytesOf(frame)
	size := int64(len(b))
	checkFed(t, impl.Framer{At: last - size}, b, impl.Framer{At: last}, frame)
	checkFed(t, impl.Framer{Buf: b[:1], At: last - size}, b[1:]+b[:5], impl.Framer{Buf: b[:5], At: last}, frame)
	checkFed(t, impl.Framer{At: last - size}, b+"\x00", impl.Framer{At: last, Bad: true}, frame)
	checkFed(t, impl.Framer{At: last - 2*size}, b+b, impl.Framer{At: last}, frame, frame)
	checkFed(t, impl.Framer{At: last - 2*size + 1}, b+b[:5], impl.Framer{Buf: b[:5], At: last - size + 1}, frame)
	checkNotFed(t, impl.Framer{At: last - size + 1}, b)
	checkNotFed(t, impl.Framer{At: last - size + 1}, b+b[:1])
	checkNotFed(t, impl.Framer{At: last - size + 1}, b+"\x00")
	checkNotFed(t, impl.Framer{At: last - 2*size + 1}, b+b)
	checkNotFed(t, impl.Framer{Buf: b[:5], At: last - 2*size + 1}, b[5:]+b+"\x00")
	checkNotFed(t, impl.Framer{Buf: b[:5], At: last}, b[5:])
	checkNotFed(t, impl.Framer{At: last}, "\x01\x01\x00")
	// What does not move At is taken there.
	checkFed(t, impl.Framer{At: last}, "", impl.Framer{At: last})
	checkFed(t, impl.Framer{At: last}, b[:5], impl.Framer{Buf: b[:5], At: last})
	checkFed(t, impl.Framer{Buf: b[:3], At: last}, b[3:5], impl.Framer{Buf: b[:5], At: last})
	checkFed(t, impl.Framer{At: last}, "\x00", impl.Framer{At: last, Bad: true})
	checkFed(t, impl.Framer{At: last, Bad: true}, b, impl.Framer{At: last, Bad: true})
}

func TestBadFramerStaysSo(t *testing.T) {
	frame := bytesOf(impl.Frame{Format: 1, Kind: 1, Data: "abc"})
	for _, at := range []int64{0, 1, 77, 1000000000} {
		bad := impl.Framer{At: at, Bad: true}
		for _, chunk := range []string{"", "\x00", "\x01", frame, frame + frame, frame[:4], filled("\x01", 4000), strings.Repeat(frame, 600)} {
			checkFed(t, bad, chunk, bad)
		}
	}
	// What stands behind what is no frame is never told, however it comes.
	stream := frame + "\x00" + strings.Repeat(frame, 3)
	for i := range len(stream) + 1 {
		f, _, _ := impl.Feed(impl.Framer{}, stream[:i])
		f, _, _ = impl.Feed(f, stream[i:])
		checkFed(t, f, frame, impl.Framer{At: int64(len(frame)), Bad: true})
	}
}

// fedIn feeds a framer with chunks one by one.
func fedIn(t *testing.T, f impl.Framer, chunks []string) ([]impl.Frame, impl.Framer) {
	t.Helper()
	var all []impl.Frame
	for _, chunk := range chunks {
		next, list, ok := impl.Feed(f, chunk)
		if !ok {
			t.Fatalf("%#v refuses %q", f, chunk)
		}
		if f.Bad && (next != f || len(list) > 0) {
			t.Fatalf("%#v became %#v, and tells %#v", f, next, list)
		}
		all = append(all, list...)
		f = next
	}
	return all, f
}

// cutsOf answers many ways to cut b into chunks: at all of its places, where it
// is short, a byte at a time, with empty chunks between, and anywhere.
func cutsOf(r *rand.Rand, b string) [][]string {
	cuts := [][]string{slices.Collect(chunked(b, 1)), {"", b, ""}}
	if len(b) > 4000 {
		cuts = cuts[:1]
	}
	for i := 0; i <= len(b); i += 1 + len(b)/1000 {
		if max(i, len(b)-i) <= 4000 {
			cuts = append(cuts, []string{b[:i], b[i:]})
		}
	}
	for _, most := range []int{2, 5, 50, 1500, 4000} {
		var chunks []string
		for rest := b; rest != ""; {
			n := r.IntN(min(most, len(rest)) + 1)
			chunks = append(chunks, rest[:n])
			rest = rest[n:]
		}
		cuts = append(cuts, chunks)
	}
	return cuts
}

// randomFrame answers one with data that may look like other frames.
func randomFrame(r *rand.Rand) impl.Frame {
	f := impl.Frame{Format: 1 + r.Int64N(5), Kind: 1 + r.Int64N(4)}
	switch r.IntN(4) {
	case 0:
		f.Data = strings.Repeat("\x01\x02\x00", r.IntN(334))
	case 1:
		f.Data = randomBytes(r, int64(frameSizes[r.IntN(len(frameSizes))]))
	case 2:
		f.Data = randomBytes(r, r.Int64N(12))
	}
	return f
}

// randomTail answers what may stand behind the last frame.
func randomTail(r *rand.Rand) string {
	b := bytesOf(randomFrame(r))
	switch r.IntN(5) {
	case 0:
		return b[:r.IntN(len(b))]
	case 1:
		return string(spoilBytes(r, []byte(b[:min(len(b), 4)]))) + b
	case 2:
		return string(edges[r.IntN(len(edges))]) + b
	case 3:
		return randomBytes(r, r.Int64N(6))
	}
	return ""
}

func TestFramesInChunks(t *testing.T) {
	t.Parallel()
	r := rand.New(rand.NewPCG(21, 22))
	bad, waiting, done := 0, 0, 0
	for range 400 {
		b := ""
		for range r.IntN(6) {
			b += bytesOf(randomFrame(r))
		}
		b += randomTail(r)
		frames, left := framesIn(b)
		switch {
		case left.Bad:
			bad++
		case left.Buf != "":
			waiting++
		default:
			done++
		}
		checkFramesOf(t, b, frames, left.At)
		start := impl.Framer{At: r.Int64N(1000)}
		want := left
		want.At += start.At
		for _, chunks := range cutsOf(r, b) {
			list, f := fedIn(t, start, chunks)
			if f != want || !slices.Equal(list, frames) {
				t.Fatalf("%q in chunks %q tells %#v and is left as %#v, not %#v and %#v", b, chunks, list, f, frames, want)
			}
		}
	}
	if bad < 50 || waiting < 50 || done < 50 {
		t.Errorf("%d bad, %d waiting, %d done", bad, waiting, done)
	}
}

func TestFramesOfManyBytes(t *testing.T) {
	r := rand.New(rand.NewPCG(23, 24))
	var frames []impl.Frame
	var b strings.Builder
	for range 3000 {
		f := randomFrame(r)
		frames = append(frames, f)
		b.WriteString(bytesOf(f))
	}
	stream := b.String()
	end := int64(len(stream))
	for _, tail := range []string{"", "\x01", "\x01\x01\xe8\x07xyz", "\x00", "\x01\x01\xe9\x07", "\x00" + stream, filled("\x00", 5000)} {
		checkFramesOf(t, stream+tail, frames, end)
		list, f := fedIn(t, impl.Framer{}, slices.Collect(chunked(stream+tail, 3999)))
		if _, left := framesIn(stream + tail); f != left || !slices.Equal(list, frames) {
			t.Fatalf("%d frames of %d, and %#v is left", len(list), len(frames), f)
		}
	}
}

// chunked goes through b in pieces of n bytes; the last one may be shorter.
func chunked(b string, n int) func(yield func(string) bool) {
	return func(yield func(string) bool) {
		for len(b) > n {
			if !yield(b[:n]) {
				return
			}
			b = b[n:]
		}
		yield(b)
	}
}

func TestFramesLeaveAlone(t *testing.T) {
	frame := impl.Frame{Format: 3, Kind: 1, Data: "abcdef"}
	b := bytesOf(frame)
	for _, r := range []struct {
		f     impl.Framer
		chunk string
	}{
		{impl.Framer{}, b + b + b[:5]}, {impl.Framer{Buf: b[:5]}, ""}, {impl.Framer{Buf: b[:5]}, b[5:]}, {impl.Framer{Buf: b[:1]}, b[1:] + b + b[:4]}, {impl.Framer{}, b[:7]}, {impl.Framer{}, b + "\x00" + b}, {impl.Framer{Buf: b[:7]}, b[7:8]}, {impl.Framer{Bad: true}, b},
	} {
		f, chunk := impl.Framer{Buf: strings.Clone(r.f.Buf), At: r.f.At, Bad: r.f.Bad}, strings.Clone(r.chunk)
		first, list, ok := impl.Feed(r.f, r.chunk)
		second, again, is := impl.Feed(r.f, r.chunk)
		if !ok || !is || first != second || !slices.Equal(list, again) || r.f != f || r.chunk != chunk {
			t.Errorf("%#v, fed with %q, is %#v and tells %#v, then %#v and %#v", r.f, r.chunk, first, list, second, again)
		}
		checkNewFrames(t, list, first.Buf, r.f.Buf, r.chunk)
		told, _ := impl.FramesOf(r.chunk)
		twice, _ := impl.FramesOf(r.chunk)
		if !slices.Equal(told, twice) || impl.FramerOk(r.f) != impl.FramerOk(f) {
			t.Errorf("%q begins with %#v, then with %#v", r.chunk, told, twice)
		}
		checkNewFrames(t, told, "", r.chunk)
		clear(told)
		clear(list)
		if third, _ := impl.FramesOf(r.chunk); !slices.Equal(third, twice) {
			t.Errorf("%q begins with %#v, then with %#v", r.chunk, twice, third)
		}
	}
	if one, two := impl.FrameBytes(frame), impl.FrameBytes(frame); one != two || within(one, frame.Data) || within(one, two) {
		t.Errorf("%q and %q", one, two)
	}
}

// checkNewFrames asks whether frames, and what is left, share memory with
// nothing given, nor with each other.
func checkNewFrames(t *testing.T, list []impl.Frame, left string, given ...string) {
	t.Helper()
	texts := []string{left}
	for _, f := range list {
		texts = append(texts, f.Data)
	}
	checkNewTexts(t, texts, given)
}

func checkNewTexts(t *testing.T, texts, given []string) {
	t.Helper()
	checkApart(t, texts, given)
	for i := range texts {
		checkApart(t, texts[:i], texts[i:])
	}
}
