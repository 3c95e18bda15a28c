package tests

import (
	"encoding/hex"
	"math"
	"math/rand/v2"
	"regexp"
	"runtime"
	"slices"
	"strings"
	"testing"

	"loop.example/g00774/impl"
)

// cmdForm is what the text of a command looks like.
var cmdForm = regexp.MustCompile(`^(to (rlp|ssz|scale|proto|bitcoin)|feed (-|([0-9a-f]{2}){1,400})|reset)$`)

// isCmd is the tests' own reading of what a command is.
func isCmd(c impl.Cmd) bool {
	switch c.Kind {
	case 1:
		return 1 <= c.A && c.A <= 5 && c.Data == ""
	case 2:
		return c.A == 0 && len(c.Data) <= 400
	case 3:
		return c.A == 0 && c.Data == ""
	}
	return false
}

// cmdText is the tests' own writing of a command, "" when it is none.
func cmdText(c impl.Cmd) string {
	switch {
	case !isCmd(c):
		return ""
	case c.Kind == 1:
		return "to " + []string{"rlp", "ssz", "scale", "proto", "bitcoin"}[c.A-1]
	case c.Kind == 3:
		return "reset"
	case c.Data == "":
		return "feed -"
	}
	return "feed " + hex.EncodeToString([]byte(c.Data))
}

// checkCmd asks for all that is to be told of one command alone.
func checkCmd(t *testing.T, c impl.Cmd) {
	t.Helper()
	text, want := impl.CmdText(c), cmdText(c)
	if impl.CmdOk(c) != isCmd(c) || text != want {
		t.Fatalf("%#v has text %q, %v, not %q", c, text, impl.CmdOk(c), want)
	}
	if want == "" {
		checkPlay(t, []impl.Cmd{c}, impl.Relay{To: 1}, impl.Answer{Code: impl.PlForm})
		return
	}
	if back, ok := impl.ReadCmd(want); !ok || back != c {
		t.Fatalf("%q is read as %#v, %v", want, back, ok)
	}
}

func checkNoCmdText(t *testing.T, text string) {
	t.Helper()
	if c, ok := impl.ReadCmd(text); ok || c != (impl.Cmd{}) {
		t.Fatalf("%q is read as %#v, %v", text, c, ok)
	}
}

func checkPlay(t *testing.T, list []impl.Cmd, want impl.Relay, answers ...impl.Answer) {
	t.Helper()
	r, told := impl.Play(list)
	if r != want || !slices.EqualFunc(told, answers, sameAnswer) {
		t.Fatalf("%#v leaves %#v and tells %#v, not %#v and %#v", list, r, told, want, answers)
	}
	var outs []impl.Out
	for _, answer := range answers {
		outs = append(outs, answer.Outs...)
	}
	if all := impl.OutsOf(list); !slices.Equal(all, outs) {
		t.Fatalf("%#v tells %#v in all, not %#v", list, all, outs)
	}
}

func sameAnswer(a, b impl.Answer) bool {
	return a.Code == b.Code && slices.Equal(a.Outs, b.Outs)
}

func to(format int64) impl.Cmd {
	return impl.Cmd{Kind: impl.CmTo, A: format}
}

func feed(data string) impl.Cmd {
	return impl.Cmd{Kind: impl.CmFeed, Data: data}
}

var reset = impl.Cmd{Kind: impl.CmReset}

// feeds answers commands that feed chunks, those that are too long in pieces.
func feeds(chunks ...string) []impl.Cmd {
	var list []impl.Cmd
	for _, chunk := range chunks {
		for piece := range chunked(chunk, 400) {
			list = append(list, feed(piece))
		}
	}
	return list
}

// played is the tests' own play: of frames it reads by itself, but what is told
// of one frame it asks from Translate.
func played(list []impl.Cmd) (impl.Relay, []impl.Answer) {
	r := impl.Relay{To: 1}
	var answers []impl.Answer
	for _, c := range list {
		var answer impl.Answer
		switch {
		case !isCmd(c):
			answer.Code = 1
		case c.Kind == 1:
			r.To = c.A
		case c.Kind == 3:
			r.F.Buf, r.F.Bad = "", false
		case r.F.Bad:
			answer.Code = 2
		default:
			frames, left := framesIn(r.F.Buf + c.Data)
			left.At += r.F.At
			r.F = left
			answer.Outs = toldOf(frames, r.To)
		}
		answers = append(answers, answer)
	}
	return r, answers
}

func toldOf(frames []impl.Frame, to int64) []impl.Out {
	var outs []impl.Out
	for _, f := range frames {
		data, code := impl.Translate(f.Kind, f.Format, to, f.Data)
		out := impl.Out{Code: code}
		if code == 0 {
			out.Data = bytesOf(impl.Frame{Format: to, Kind: f.Kind, Data: data})
		}
		outs = append(outs, out)
	}
	return outs
}

func checkPlayed(t *testing.T, list []impl.Cmd) {
	t.Helper()
	r, answers := played(list)
	checkPlay(t, list, r, answers...)
}

func TestTextsOfCommands(t *testing.T) {
	for text, c := range map[string]impl.Cmd{
		"to rlp": to(1), "to ssz": to(2), "to scale": to(3), "to proto": to(4), "to bitcoin": to(5), "reset": reset,
		"feed -": feed(""), "feed 00": feed("\x00"), "feed 2d": feed("-"), "feed 00ff": feed("\x00\xff"), "feed 0123456789abcdef": feed("\x01\x23\x45\x67\x89\xab\xcd\xef"), "feed " + filled("7a", 400): feed(filled("z", 400)),
	} {
		checkCmd(t, c)
		if back, ok := impl.ReadCmd(text); !ok || back != c || impl.CmdText(c) != text {
			t.Errorf("%q is read as %#v, %v, and written as %q", text, back, ok, impl.CmdText(c))
		}
	}
	for n := range 402 {
		checkCmd(t, feed(filled("\xa5", n)))
	}
	for n := range 256 {
		checkCmd(t, feed(string([]byte{byte(n)})))
		checkCmd(t, feed(string([]byte{1, byte(n), byte(n), 2})))
	}
}

func TestCommandsAtTheirEdges(t *testing.T) {
	numbers := []int64{0, 1, 2, 3, 4, 5, 6, 7, -1, -2, 256 + 1, 1<<32 + 1, 1<<32 + 2, 1<<32 + 3, math.MinInt64, math.MaxInt64}
	texts := []string{"", "\x00", "x", "-", "rlp", filled("x", 399), filled("x", 400), filled("x", 401), filled("\x00", 402), filled("x", 100000)}
	for _, kind := range numbers {
		for _, a := range numbers {
			for _, data := range texts {
				checkCmd(t, impl.Cmd{Kind: kind, A: a, Data: data})
			}
		}
	}
}

func TestTextsOfNoCommand(t *testing.T) {
	for _, text := range []string{
		"", " ", "  ", "-", "to", "to ", "to  ", "to  rlp", " to rlp", "to rlp ", "to rlp  ", "to rlp rlp", "to rlp ssz", "to rlp -", "to xml", "to RLP", "To rlp", "TO rlp", "to Rlp", "to 1", "to -", "to rl", "to rlpx", "to\trlp", "to\nrlp", "to rlp\n", "torlp", "rlp", "to scal", "to bitcoins", "to rlp\x00",
		"feed", "feed ", "feed  ", "feed  -", " feed -", "feed - ", "feed -  ", "feed - -", "feed --", "feed 00 ", "feed  00", "feed 00 ff", "feed 00 -", "feed - 00", "feed 0", "feed 000", "feed 00f", "feed AB", "feed aB", "feed Ab", "feed 0A", "feed A0", "feed 0F", "feed F0", "feed 0g", "feed g0", "feed 00-", "feed -00", "feed 0-", "feed -0", "feed 0x00", "feed 0 0", "feed x", "feed00", "feed-", "Feed 00", "FEED 00", "feed\t00", "feed 00\n", "feed \x00\x00", "feed rlp", "fee 00", "feeds 00", "feed 0/", "feed 0:", "feed 0`", "feed +1",
		"reset ", " reset", "reset  ", "reset 1", "reset -", "reset 0", "reset reset", "reset rlp", "resets", "rese", "Reset", "RESET", "reset\n", "reset\x00",
		"fly", "state", "to feed", "feed to rlp", "to reset", "zero",
		"feed " + filled("00", 401), "feed " + filled("00", 400) + "0", "feed " + filled("0", 799), "feed " + filled("00", 100000), filled(" ", 1000), filled("to ", 1000),
	} {
		checkNoCmdText(t, text)
	}
}

// What is read is, written again, what was read; nothing else is.
func TestSpoiledTextsOfCommands(t *testing.T) {
	right := []string{"to rlp", "to ssz", "to scale", "to proto", "to bitcoin", "feed -", "feed 00", "feed 00ff", "feed 9a09fd", "reset", "feed " + filled("c3", 399), "feed " + filled("c3", 400)}
	letters := " -0123456789abcdefgABFGorstuz\n\x00\xff"
	good, bad := 0, 0
	check := func(text string) {
		if !cmdForm.MatchString(text) {
			bad++
			checkNoCmdText(t, text)
			return
		}
		good++
		if c, ok := impl.ReadCmd(text); !ok || !isCmd(c) || impl.CmdText(c) != text || cmdText(c) != text {
			t.Fatalf("%q is read as %#v, %v", text, c, ok)
		}
	}
	for _, text := range right {
		check(text)
		for i := range min(len(text), 40) + 1 {
			check(text[i:])
			check(text[:i])
			for _, letter := range strings.Split(letters, "") {
				check(text[:i] + letter + text[i:])
				check(text + letter)
				if i < len(text) {
					check(text[:i] + letter + text[i+1:])
					check(text[:i] + text[i+1:])
				}
			}
		}
		for _, other := range right {
			check(text + other)
			check(text + " " + other)
		}
	}
	if good < 500 || bad < 5000 {
		t.Errorf("%d were commands, %d were none", good, bad)
	}
}

func TestPlaysOfFewCommands(t *testing.T) {
	rlp := "\x01\x03\x03\xc2\x80\xc0"
	ssz := "\x02\x03\x08\x00\x00\x00\x00\x08\x00\x00\x00"
	wrong := "\x02\x01\x01x"
	at := func(format, n int64) impl.Relay { return impl.Relay{To: format, F: impl.Framer{At: n}} }
	none := impl.Answer{}
	told := func(outs ...string) impl.Answer {
		var answer impl.Answer
		for _, out := range outs {
			answer.Outs = append(answer.Outs, impl.Out{Data: out})
		}
		return answer
	}
	refused, bad := impl.Answer{Code: impl.PlForm}, impl.Answer{Code: impl.PlBad}
	checkPlay(t, nil, at(1, 0))
	checkPlay(t, []impl.Cmd{feed("")}, at(1, 0), none)
	checkPlay(t, []impl.Cmd{feed(ssz)}, at(1, 11), told(rlp))
	checkPlay(t, []impl.Cmd{to(2), feed(ssz + rlp)}, at(2, 17), none, told(ssz, ssz))
	checkPlay(t, []impl.Cmd{to(2), to(1), to(1), feed(ssz)}, at(1, 11), none, none, none, told(rlp))
	checkPlay(t, []impl.Cmd{feed(ssz), to(2), feed(rlp)}, at(2, 17), told(rlp), none, told(ssz))
	checkPlay(t, []impl.Cmd{feed(wrong), to(4)}, at(4, 4), impl.Answer{Outs: []impl.Out{{Code: impl.RlForm}}}, none)
	checkPlay(t, []impl.Cmd{feed(ssz[:5])}, impl.Relay{To: 1, F: impl.Framer{Buf: ssz[:5]}}, none)
	checkPlay(t, []impl.Cmd{feed(ssz[:5]), to(2), feed(ssz[5:])}, at(2, 11), none, none, told(ssz))
	checkPlay(t, []impl.Cmd{feed(ssz + ssz[:5]), reset, feed(ssz)}, at(1, 22), told(rlp), none, told(rlp))
	checkPlay(t, []impl.Cmd{feed(ssz[:5]), reset, feed(ssz[5:])}, impl.Relay{To: 1, F: impl.Framer{Bad: true}}, none, none, none)
	checkPlay(t, []impl.Cmd{feed(ssz + "\x00")}, impl.Relay{To: 1, F: impl.Framer{At: 11, Bad: true}}, told(rlp))
	checkPlay(t, []impl.Cmd{feed(ssz + "\x00"), feed(""), feed(ssz), to(3)}, impl.Relay{To: 3, F: impl.Framer{At: 11, Bad: true}}, told(rlp), bad, bad, none)
	checkPlay(t, []impl.Cmd{feed("\x00"), reset}, at(1, 0), none, none)
	checkPlay(t, []impl.Cmd{feed(ssz + "\x00"), reset, feed(ssz)}, at(1, 22), told(rlp), none, told(rlp))
	checkPlay(t, []impl.Cmd{to(2), reset, feed(rlp), reset}, at(2, 6), none, none, told(ssz), none)
	// What is no command is told so, even where the framer is bad.
	checkPlay(t, []impl.Cmd{{}, feed("\x00"), {Kind: 2, A: 1}, feed("x"), {Kind: 2, Data: filled("x", 401)}, {Kind: 3, A: 1}}, impl.Relay{To: 1, F: impl.Framer{Bad: true}}, refused, none, refused, bad, refused, refused)
}

func TestMostCommands(t *testing.T) {
	wrong := bytesOf(impl.Frame{Format: 2, Kind: 1, Data: filled("x", 397)})
	for _, n := range []int{0, 1, 99, 100} {
		for _, c := range []impl.Cmd{{}, to(5), to(6), feed(""), feed(wrong[:400]), feed("\x00"), reset} {
			checkPlayed(t, slices.Repeat([]impl.Cmd{c}, n))
		}
		checkPlayed(t, append(slices.Repeat([]impl.Cmd{reset}, max(n, 1)-1), feed(wrong[:400])))
	}
	for _, n := range []int{101, 102, 200, 100000} {
		for _, c := range []impl.Cmd{{}, to(5), feed(wrong[:400]), reset} {
			checkPlay(t, slices.Repeat([]impl.Cmd{c}, n), impl.Relay{})
		}
	}
}

// What a play tells of a stream in chunks is what a relay tells of all of it.
func TestPlaysOfAStreamInChunks(t *testing.T) {
	t.Parallel()
	r := rand.New(rand.NewPCG(51, 52))
	for _, tail := range streamTails {
		format, pieces := 1+r.Int64N(5), randomPieces(t, r, 1+r.IntN(3))
		b := streamOf(pieces) + tail.b
		outs, good := impl.RelayAll(format, b)
		if good != tail.good || !slices.Equal(outs, outsOf(pieces, format)) {
			t.Fatalf("%q to %d tells %#v, %v", b, format, outs, good)
		}
		_, left := framesIn(b)
		// At every place, but far behind the frames at some only.
		for cut := 0; cut <= len(b); cut += 1 + cut/2000*99 {
			list := append([]impl.Cmd{to(format)}, feeds(b[:cut], b[cut:])...)
			if relay, _ := impl.Play(list); relay != (impl.Relay{To: format, F: left}) {
				t.Fatalf("%q, cut at %d, leaves %#v, not %#v", b, cut, relay, left)
			}
			if all := impl.OutsOf(list); !slices.Equal(all, outs) {
				t.Fatalf("%q, cut at %d, tells %#v, not %#v", b, cut, all, outs)
			}
		}
		checkSmallFeeds(t, b, format, outs)
	}
}

// checkSmallFeeds asks for feeds of all sizes with which there are not too many.
func checkSmallFeeds(t *testing.T, b string, format int64, outs []impl.Out) {
	t.Helper()
	for n := 1; n <= 400; n++ {
		list := []impl.Cmd{to(format)}
		for chunk := range chunked(b, n) {
			list = append(list, feed(chunk))
		}
		if len(list) > 100 {
			continue
		}
		if all := impl.OutsOf(list); !slices.Equal(all, outs) {
			t.Fatalf("%q in feeds of %d tells %#v, not %#v", b, n, all, outs)
		}
		if n < 397 {
			n += n / 3
		}
	}
}

// A command of another format counts for the frames whose last bytes come
// behind it.
func TestPlayToAnotherFormatWithinAStream(t *testing.T) {
	r := rand.New(rand.NewPCG(53, 54))
	for range 20 {
		pieces := randomPieces(t, r, 3)
		b, one, two := streamOf(pieces), 1+r.Int64N(5), 1+r.Int64N(5)
		for cut := 0; cut <= len(b); cut += 1 + len(b)/200 {
			var outs []impl.Out
			end := 0
			for _, p := range pieces {
				end += len(bytesOf(p.frame))
				if end <= cut {
					outs = append(outs, p.outs[one])
				} else {
					outs = append(outs, p.outs[two])
				}
			}
			list := append(append([]impl.Cmd{to(one)}, feeds(b[:cut])...), append([]impl.Cmd{to(two)}, feeds(b[cut:])...)...)
			if all := impl.OutsOf(list); !slices.Equal(all, outs) {
				t.Fatalf("%q, cut at %d, to %d and then %d, tells %#v, not %#v", b, cut, one, two, all, outs)
			}
		}
	}
}

func TestResetInTheMiddleOfAFrame(t *testing.T) {
	r := rand.New(rand.NewPCG(55, 56))
	for range 10 {
		ahead, behind := randomPiece(t, r), randomPiece(t, r)
		b, next := bytesOf(ahead.frame), bytesOf(behind.frame)
		if len(b) > 400 {
			continue
		}
		for cut := range len(b) + 1 {
			// What came of a frame is gone, and is not counted.
			list := append([]impl.Cmd{feed(b[:cut]), reset}, feeds(next)...)
			want, outs := impl.Relay{To: 1, F: impl.Framer{At: int64(len(next))}}, []impl.Out{behind.outs[1]}
			if cut == len(b) {
				want.F.At += int64(cut)
				outs = []impl.Out{ahead.outs[1], behind.outs[1]}
			}
			if relay, _ := impl.Play(list); relay != want || !slices.Equal(impl.OutsOf(list), outs) {
				t.Fatalf("%q, reset at %d, leaves %#v and tells %#v", b, cut, relay, impl.OutsOf(list))
			}
			checkPlayed(t, list)
			checkPlayed(t, append([]impl.Cmd{feed(b[:cut] + "\x00")}, append([]impl.Cmd{feed("x"), reset}, feeds(next)...)...))
		}
	}
}

// randomCmd answers one of a play, and sometimes what is no command.
func randomCmd(t *testing.T, r *rand.Rand, stream *string) impl.Cmd {
	t.Helper()
	for len(*stream) < 1000 {
		*stream += bytesOf(randomPiece(t, r).frame)
	}
	switch r.IntN(20) {
	case 0:
		return reset
	case 1, 2, 3:
		return to(1 + r.Int64N(5))
	case 4:
		return feed([]string{"", "\x00", "\x01\x05", "\x01\x01\x80\x00"}[r.IntN(4)])
	case 5:
		return impl.Cmd{Kind: r.Int64N(6) - 1, A: r.Int64N(9) - 2, Data: filled("x", r.IntN(2)*r.IntN(500))}
	case 6:
		*stream = (*stream)[1:]
	}
	n := r.IntN(401)
	if r.IntN(2) == 0 {
		n = r.IntN(20)
	}
	chunk := (*stream)[:n]
	*stream = (*stream)[n:]
	return feed(chunk)
}

func TestPlaysOfManyCommands(t *testing.T) {
	t.Parallel()
	r := rand.New(rand.NewPCG(57, 58))
	outs, codes := 0, [3]int{}
	for range 300 {
		stream := ""
		var list []impl.Cmd
		for range r.IntN(101) {
			list = append(list, randomCmd(t, r, &stream))
		}
		checkPlayed(t, list)
		checkWithoutRefused(t, list)
		_, answers := impl.Play(list)
		for _, answer := range answers {
			codes[answer.Code]++
			outs += len(answer.Outs)
		}
	}
	if outs < 500 || slices.Min(codes[:]) < 200 {
		t.Errorf("%d outs, codes %v", outs, codes)
	}
}

// checkWithoutRefused asks whether a play is the same without the commands that
// are refused.
func checkWithoutRefused(t *testing.T, list []impl.Cmd) {
	t.Helper()
	want, answers := impl.Play(list)
	var some []impl.Cmd
	var told []impl.Answer
	for i, answer := range answers {
		if answer.Code == impl.PlOk {
			some, told = append(some, list[i]), append(told, answer)
		}
	}
	checkPlay(t, some, want, told...)
}

// A command that is refused changes nothing, wherever it stands.
func TestRefusedBetweenOthers(t *testing.T) {
	r := rand.New(rand.NewPCG(59, 60))
	refused := []impl.Cmd{{}, {Kind: 4}, to(0), to(6), {Kind: 1, A: 2, Data: "x"}, {Kind: 2, A: 1}, {Kind: 2, A: 1, Data: "\x00"}, feed(filled("\x00", 401)), {Kind: 3, A: 1}, {Kind: 3, Data: "x"}, {Kind: -1, A: 1}}
	for range 30 {
		stream := ""
		var list []impl.Cmd
		for range 8 {
			list = append(list, randomCmd(t, r, &stream))
		}
		want, answers := impl.Play(list)
		for at := range len(list) + 1 {
			for _, c := range refused {
				checkPlay(t, slices.Insert(slices.Clone(list), at, c), want, slices.Insert(slices.Clone(answers), at, impl.Answer{Code: impl.PlForm})...)
			}
		}
	}
}

func TestPlaysLeaveAlone(t *testing.T) {
	r := rand.New(rand.NewPCG(61, 62))
	for range 60 {
		stream := ""
		var room []impl.Cmd
		for range 12 {
			room = append(room, randomCmd(t, r, &stream))
		}
		before := slices.Clone(room)
		list := room[:10]
		var given []string
		for _, c := range list {
			given = append(given, c.Data)
		}
		one, told := impl.Play(list)
		two, again := impl.Play(list)
		if one != two || !slices.EqualFunc(told, again, sameAnswer) || !slices.Equal(room, before) {
			t.Fatalf("%#v tells %#v, then %#v, and became %#v", before, told, again, room)
		}
		outs, twice := impl.OutsOf(list), impl.OutsOf(list)
		if !slices.Equal(outs, twice) {
			t.Fatalf("%#v tells %#v, then %#v", list, outs, twice)
		}
		var all []impl.Out
		for _, answer := range told {
			all = append(all, answer.Outs...)
		}
		checkNewOuts(t, all, one.F.Buf, given...)
		checkNewOuts(t, outs, one.F.Buf, given...)
		clear(outs)
		for _, answer := range told {
			clear(answer.Outs)
		}
		clear(told)
		checkPlay(t, list, two, again...)
	}
}

func TestCommandsLeaveAlone(t *testing.T) {
	data := "\x01\x02abc"
	c := feed(strings.Clone(data))
	text := impl.CmdText(c)
	for range 2 {
		back, ok := impl.ReadCmd(text)
		if !ok || back != feed(data) || c != feed(data) || impl.CmdText(c) != "feed 0102616263" || text != "feed 0102616263" || !impl.CmdOk(c) {
			t.Fatalf("%#v has text %q, which is read as %#v, %v", c, text, back, ok)
		}
		checkApart(t, []string{back.Data}, []string{text, c.Data})
		checkApart(t, []string{impl.CmdText(c)}, []string{text, c.Data})
	}
}

func TestPlaysLeaveNoGoroutine(t *testing.T) {
	frame := bytesOf(impl.Frame{Format: 2, Kind: 1, Data: "x"})
	before := runtime.NumGoroutine()
	for range 50 {
		impl.Play([]impl.Cmd{feed(frame + frame), feed("\x00"), feed(frame), reset, feed(frame + "\x01")})
		impl.OutsOf(slices.Repeat([]impl.Cmd{feed(frame)}, 100))
		impl.Play(slices.Repeat([]impl.Cmd{feed(frame)}, 101))
	}
	if !settled(before) {
		t.Errorf("%d goroutines, at first %d", runtime.NumGoroutine(), before)
	}
}
