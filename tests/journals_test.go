package tests

import (
	"encoding/binary"
	"hash/crc32"
	"math"
	"math/rand/v2"
	"slices"
	"strconv"
	"strings"
	"testing"

	"loop.example/g00774/impl"
)

// framed is the tests' own frame of data, however much that is.
func framed(data string) string {
	b := binary.BigEndian.AppendUint32(nil, uint32(len(data)))
	return string(binary.LittleEndian.AppendUint32(b, crc32.ChecksumIEEE([]byte(data)))) + data
}

// framedIn answers the data of the frames with which s begins, and where they
// end.
func framedIn(s string) ([]string, int64) {
	var list []string
	at := 0
	for len(s)-at >= 8 {
		n := int(binary.BigEndian.Uint32([]byte(s[at:])))
		if n > 100000 || n > len(s)-at-8 || framed(s[at+8:at+8+n]) != s[at:at+8+n] {
			break
		}
		list = append(list, s[at+8:at+8+n])
		at += 8 + n
	}
	return list, int64(at)
}

func checkTaken(t *testing.T, s string, want []string, end int64) {
	t.Helper()
	if list, at := impl.TakeFrames(s); at != end || !slices.Equal(list, want) {
		t.Fatalf("%.200q, %d bytes, begins with %.200q up to %d, not with %.200q up to %d", s, len(s), list, at, want, end)
	}
}

// checkTakenAs asks for what the tests read by themselves.
func checkTakenAs(t *testing.T, s string) {
	t.Helper()
	list, end := framedIn(s)
	checkTaken(t, s, list, end)
}

func TestFramesOfData(t *testing.T) {
	for data, want := range map[string]string{
		"": "\x00\x00\x00\x00\x00\x00\x00\x00", "abc": "\x00\x00\x00\x03\xc2\x41\x24\x35abc", "123456789": "\x00\x00\x00\x09\x26\x39\xf4\xcb123456789", "\x00": "\x00\x00\x00\x01\x8d\xef\x02\xd2\x00", "a": "\x00\x00\x00\x01\x43\xbe\xb7\xe8a",
	} {
		if b := impl.FrameOf(data); b != want {
			t.Errorf("%q has frame %q, not %q", data, b, want)
		}
	}
	for n := range 256 {
		data := string([]byte{byte(n)})
		if b := impl.FrameOf(data); b != framed(data) {
			t.Errorf("%q has frame %q", data, b)
		}
	}
	r := rand.New(rand.NewPCG(81, 82))
	for _, n := range []int64{0, 1, 2, 3, 4, 7, 8, 9, 255, 256, 257, 65535, 65536, 65537, 99999, 100000} {
		for _, data := range []string{randomBytes(r, n), filled("\x00", int(n)), filled("\xff", int(n))} {
			b := impl.FrameOf(data)
			if b != framed(data) || int64(len(b)) != 8+n || b[:4] != string([]byte{0, byte(n >> 16), byte(n >> 8), byte(n)}) {
				t.Fatalf("%d bytes have a frame that begins with %q", n, b[:min(len(b), 12)])
			}
			checkTaken(t, b, []string{data}, 8+n)
			checkTaken(t, b+b+"\x00", []string{data, data}, 2*(8+n))
		}
	}
	for _, n := range []int{100001, 100002, 131072, 1000000} {
		for _, letter := range []string{"\x00", "x"} {
			if b := impl.FrameOf(filled(letter, n)); b != "" {
				t.Errorf("%d bytes have a frame of %d", n, len(b))
			}
			// What would be the frame is none.
			checkTaken(t, framed(filled(letter, n)), nil, 0)
			checkTaken(t, framed("ahead")+framed(filled(letter, n))+framed("behind"), []string{"ahead"}, 13)
		}
	}
}

func TestTakeFramesThatAreCut(t *testing.T) {
	checkTaken(t, "", nil, 0)
	texts := []string{"", "a", "0 reset", filled("x", 300), "", "\x00\x00\x00\x00\x00\x00\x00\x00", framed("within"), "end"}
	stream := ""
	for _, data := range texts {
		stream += framed(data)
	}
	for cut := range len(stream) + 1 {
		checkTakenAs(t, stream[:cut])
	}
	checkTaken(t, stream, texts, int64(len(stream)))
	checkTaken(t, stream[:len(stream)-1], texts[:7], int64(len(stream)-11))
	for _, tail := range []string{"\x00", "\xff\xff\xff\xff", "\x00\x00\x00\x00\x00\x00\x00", "\x00\x00\x00\x00\x01\x00\x00\x00", "\xff\xff\xff\xff\x00\x00\x00\x00", "\x80\x00\x00\x00\x00\x00\x00\x00", "\x00\x01\x86\xa1\x00\x00\x00\x00" + filled("\x00", 1000), "\x00\x01\x86\xa0\x00\x00\x00\x00" + filled("\x00", 1000), "\x03\x00\x00\x00\xc2\x41\x24\x35abc", "\x00\x00\x00\x03\x35\x24\x41\xc2abc"} {
		checkTaken(t, tail, nil, 0)
		checkTaken(t, stream+tail, texts, int64(len(stream)))
		checkTakenAs(t, stream+tail+stream)
	}
	// Noughts are frames of nothing.
	checkTaken(t, filled("\x00", 8*1000+7), make([]string, 1000), 8000)
}

func TestTakeFramesWithAnotherByte(t *testing.T) {
	stream := framed("ahead") + framed("0 to rlp") + framed("behind")
	for i := range len(stream) {
		for other := range 256 {
			b := []byte(stream)
			b[i] = byte(other)
			checkTakenAs(t, string(b))
			if string(b) != stream && i >= 13 && i < 29 {
				checkTaken(t, string(b), []string{"ahead"}, 13)
			}
		}
		checkTakenAs(t, stream[:i]+stream[i+1:])
		checkTakenAs(t, stream[:i]+"\x00"+stream[i:])
	}
}

// cmds are few ones, and no two alike.
var cmds = []impl.Cmd{to(2), feed("\x02\x03"), reset, feed(""), to(5), feed("\x00\xff\x10"), to(1), to(3)}

// entries is the tests' own log of commands, the first one with that number.
func entries(first int, list ...impl.Cmd) string {
	b := ""
	for i, c := range list {
		b += framed(strconv.Itoa(first+i) + " " + cmdText(c))
	}
	return b
}

func logDisk(log string) impl.Disk {
	return onDisk(impl.File{Name: "log", Data: log})
}

func checkView(t *testing.T, d impl.Disk, code int64, want ...impl.Cmd) {
	t.Helper()
	list, k := impl.StoreView(d)
	if k != code || !slices.Equal(list, want) {
		t.Fatalf("%s has %#v, %d, not %#v, %d", diskText(d), list, k, want, code)
	}
	r, answers, k := impl.Recovered(d)
	own, told := played(want)
	if code != impl.StOk {
		own, told = impl.Relay{}, nil
	}
	if k != code || r != own || !slices.EqualFunc(answers, told, sameAnswer) {
		t.Fatalf("%s is recovered as %#v, %#v, %d, not as %#v, %#v", diskText(d), r, answers, k, own, told)
	}
}

// checkAct asks for a code, and for the disk that is left, by StorePlay too.
func checkAct(t *testing.T, d impl.Disk, a impl.Act, code int64, want impl.Disk) {
	t.Helper()
	e, k := impl.StoreDo(d, a)
	if k != code || !sameDisk(e, want) {
		t.Fatalf("%s, with %#v done, becomes %s, %d, not %s, %d", diskText(d), a, diskText(e), k, diskText(want), code)
	}
	if code != impl.StDisk {
		checkDisk(t, e, true)
		if f, codes := impl.StorePlay(d, []impl.Act{a}); !slices.Equal(codes, []int64{code}) || !sameDisk(f, want) {
			t.Fatalf("%s, with %#v played, becomes %s, %d", diskText(d), a, diskText(f), codes)
		}
	}
}

// A stage is an op, or a Sync where it is none.
type stage struct{ op *impl.DOp }

func doing(op impl.DOp) stage { return stage{&op} }

var syncing = stage{}

// checkSteps asks for an act with power for 0 and more steps, up to all.
func checkSteps(t *testing.T, d impl.Disk, a impl.Act, start impl.Disk, steps ...stage) impl.Disk {
	t.Helper()
	for n := range len(steps) + 1 {
		a.Power = int64(n)
		code := int64(impl.StPower)
		if n == len(steps) {
			code = impl.StOk
		}
		checkAct(t, d, a, code, start)
		if n == len(steps) {
			break
		}
		if steps[n].op == nil {
			start = onDisk(start.Live...)
		} else {
			start = with(start, *steps[n].op)
		}
	}
	for _, power := range []int64{int64(len(steps)) + 1, 1000, math.MaxInt64, -1, -2, math.MinInt64} {
		a.Power = power
		checkAct(t, d, a, impl.StOk, start)
	}
	return start
}

func add(c impl.Cmd, sync bool) impl.Act {
	return impl.Act{Kind: impl.AcAdd, C: c, Sync: sync, Power: -1}
}

var (
	open   = impl.Act{Kind: impl.AcOpen, Power: -1}
	create = impl.Act{Kind: impl.AcNew, Power: -1}
)

func crash(torn int64, keep ...int64) impl.Act {
	return impl.Act{Kind: impl.AcCrash, Keep: keep, Torn: torn, Power: -1}
}

func TestANewJournal(t *testing.T) {
	other := impl.File{Name: "other", Data: "x"}
	for _, d := range []impl.Disk{{}, onDisk(other), with(onDisk(other), appendOp("other", "y")), with(logDisk("x"), removeOp("log")), onDisk(impl.File{Name: "log.new", Data: "x"}), onDisk(impl.File{Name: "Log"}, impl.File{Name: "log "}), onDisk(someFiles(59, 200000)...)} {
		checkView(t, d, impl.StNone)
		e := checkSteps(t, d, create, d, doing(appendOp("log", "")), syncing)
		checkView(t, e, impl.StOk)
		if data, ok := impl.ReadFile(e, "log"); !ok || data != "" {
			t.Errorf("the log has %q, %v", data, ok)
		}
	}
	for _, d := range []impl.Disk{logDisk(""), logDisk("torn"), logDisk(entries(0, cmds...)), with(impl.Disk{}, appendOp("log", ""))} {
		for _, power := range []int64{-1, 0, 1, 2} {
			checkAct(t, d, impl.Act{Kind: impl.AcNew, Power: power}, impl.StForm, d)
		}
	}
}

func TestAddToAJournal(t *testing.T) {
	for n := range len(cmds) {
		d := logDisk(entries(0, cmds[:n]...))
		for _, c := range append(slices.Clone(cmds), feed(filled("\xa5", 400))) {
			op := appendOp("log", entries(n, c))
			all := append(slices.Clone(cmds[:n]), c)
			checkView(t, checkSteps(t, d, add(c, false), d, doing(op)), impl.StOk, all...)
			checkView(t, checkSteps(t, d, add(c, true), d, doing(op), syncing), impl.StOk, all...)
		}
		checkView(t, d, impl.StOk, cmds[:n]...)
	}
	// With ops that are not safe yet, of the log and of other files.
	d := with(logDisk(entries(0, cmds[:2]...)), appendOp("other", "x"), appendOp("log", entries(2, cmds[2])))
	e := checkSteps(t, d, add(cmds[3], true), d, doing(appendOp("log", entries(3, cmds[3]))), syncing)
	checkView(t, e, impl.StOk, cmds[:4]...)
}

func TestOpenAJournal(t *testing.T) {
	good := entries(0, cmds[:3]...)
	for _, d := range []impl.Disk{logDisk(""), logDisk(good), with(logDisk(""), appendOp("log", good)), onDisk(impl.File{Name: "log", Data: good}, impl.File{Name: "log.new", Data: "left"})} {
		// What is good is left alone, and needs no power.
		checkSteps(t, d, open, d)
	}
	append3, rename := doing(appendOp("log.new", good)), doing(renameOp("log.new", "log"))
	for _, tail := range []string{"x", "\x00", framed("3 reset")[:9], framed("3 fly"), framed("2 reset"), framed("4 reset"), framed("4 reset") + framed("3 reset"), filled("\x00", 1000)} {
		d := logDisk(good + tail)
		checkView(t, d, impl.StOk, cmds[:3]...)
		e := checkSteps(t, d, open, d, append3, syncing, rename, syncing)
		if !sameDisk(e, logDisk(good)) {
			t.Errorf("%s becomes %s", diskText(d), diskText(e))
		}
		d = with(logDisk(good), appendOp("log", tail), appendOp("other", "x"))
		checkSteps(t, d, open, d, append3, syncing, rename, syncing)
		// One that was begun at another time is gone first.
		d = onDisk(impl.File{Name: "log", Data: good + tail}, impl.File{Name: "log.new", Data: good + "left"})
		e = checkSteps(t, d, open, d, doing(removeOp("log.new")), append3, syncing, rename, syncing)
		if !sameDisk(e, logDisk(good)) {
			t.Errorf("%s becomes %s", diskText(d), diskText(e))
		}
	}
	// Of which nothing counts.
	for _, log := range []string{"x", framed(""), framed("1 reset"), framed("reset"), filled("\x00", 8)} {
		d := logDisk(log)
		checkView(t, d, impl.StOk)
		checkSteps(t, d, open, d, doing(appendOp("log.new", "")), syncing, rename, syncing)
	}
}

func TestLogsTornAtEveryPlace(t *testing.T) {
	log := entries(0, cmds...)
	end, count := 0, 0
	for cut := range len(log) + 1 {
		if count < len(cmds) && cut == end+len(entries(count, cmds[count])) {
			end, count = cut, count+1
		}
		for _, d := range []impl.Disk{logDisk(log[:cut]), with(impl.Disk{}, appendOp("log", log[:cut])), with(logDisk(log[:end]), appendOp("log", log[end:cut]))} {
			checkView(t, d, impl.StOk, cmds[:count]...)
			e, code := impl.StoreDo(d, open)
			if f := logDisk(log[:end]); code != impl.StOk || cut > end && !sameDisk(e, f) || cut == end && !sameDisk(e, d) {
				t.Fatalf("torn at %d, %s is opened as %s, %d", cut, diskText(d), diskText(e), code)
			}
			checkView(t, e, impl.StOk, cmds[:count]...)
			if cut > end {
				checkAct(t, d, add(reset, true), impl.StTorn, d)
			}
			f, code := impl.StoreDo(e, add(reset, true))
			if code != impl.StOk {
				t.Fatalf("torn at %d, it takes no command: %d", cut, code)
			}
			checkView(t, f, impl.StOk, append(slices.Clone(cmds[:count]), reset)...)
		}
	}
	if count != len(cmds) {
		t.Errorf("%d commands", count)
	}
	for i := range len(log) {
		b := []byte(log)
		b[i] ^= 1 << (i % 8)
		frames, _ := framedIn(string(b))
		count = min(count, len(frames))
		checkView(t, logDisk(string(b)), impl.StOk, cmds[:len(frames)]...)
	}
	if count != 0 {
		t.Errorf("%d commands with another byte", count)
	}
}

func TestFramesThatDoNotCount(t *testing.T) {
	two := entries(0, cmds[:2]...)
	for _, data := range []string{
		"", "2", "2 ", " reset", "reset", "2reset", "2  reset", " 2 reset", "2 reset ", "2 reset\n", "2\treset", "2 fly", "2 to", "2 to xml", "2 feed", "2 feed 0", "2 feed AB", "2 feed " + filled("00", 401), "2 2 reset",
		"0 reset", "1 reset", "3 reset", "4 reset", "20 reset", "02 reset", "002 reset", "+2 reset", "-2 reset", "2.0 reset", "0x2 reset", "two reset", "- reset", "18446744073709551618 reset", "4294967298 reset", "258 reset", filled("2", 1000) + " reset",
	} {
		for _, behind := range []string{"", entries(2, cmds[2]), entries(3, cmds[3]), two, "x"} {
			d := logDisk(two + framed(data) + behind)
			checkView(t, d, impl.StOk, cmds[:2]...)
			checkAct(t, d, add(reset, false), impl.StTorn, d)
			if e, code := impl.StoreDo(d, open); code != impl.StOk || !sameDisk(e, logDisk(two)) {
				t.Fatalf("%q: %s is opened as %s, %d", data, diskText(d), diskText(e), code)
			}
		}
	}
}

func TestMostCommandsOfAJournal(t *testing.T) {
	many := func(n int) []impl.Cmd { return slices.Repeat([]impl.Cmd{feed("\x02"), reset}, n)[:n] }
	for _, n := range []int{98, 99} {
		d := logDisk(entries(0, many(n)...))
		e, code := impl.StoreDo(d, add(reset, true))
		if code != impl.StOk {
			t.Fatalf("%d and one more: %d", n, code)
		}
		checkView(t, e, impl.StOk, append(many(n), reset)...)
	}
	full := logDisk(entries(0, many(100)...))
	checkView(t, full, impl.StOk, many(100)...)
	for _, power := range []int64{-1, 0, 1, 2} {
		checkAct(t, full, impl.Act{Kind: impl.AcAdd, C: reset, Sync: true, Power: power}, impl.StFull, full)
	}
	checkSteps(t, full, open, full)
	// One more than there may be does not count, though it is a right one.
	for _, tail := range []string{entries(100, reset), entries(100, reset, reset), "x"} {
		d := logDisk(entries(0, many(100)...) + tail)
		checkView(t, d, impl.StOk, many(100)...)
		checkAct(t, d, add(reset, true), impl.StTorn, d)
		checkAct(t, d, add(impl.Cmd{}, true), impl.StForm, d)
		checkSteps(t, d, open, d, doing(appendOp("log.new", entries(0, many(100)...))), syncing, doing(renameOp("log.new", "log")), syncing)
	}
	var d impl.Disk
	acts := []impl.Act{create}
	want := []int64{impl.StOk}
	for i := range 105 {
		acts = append(acts, add(feed(filled("\xff", 400)), i%7 == 0))
		want = append(want, impl.StOk)
	}
	for i := 101; i < len(want); i++ {
		want[i] = impl.StFull
	}
	d, codes := impl.StorePlay(d, acts)
	if !slices.Equal(codes, want) {
		t.Errorf("codes %v", codes)
	}
	checkView(t, d, impl.StOk, slices.Repeat([]impl.Cmd{feed(filled("\xff", 400))}, 100)...)
}

// noDisk is a disk that is not right, though it has a log.
func noDisk() impl.Disk {
	d := logDisk(entries(0, cmds...))
	d.Safe = nil
	return d
}

func TestWhatAJournalTellsFirst(t *testing.T) {
	long := entries(0, slices.Repeat([]impl.Cmd{reset}, 101)...)
	stuffed := func(d impl.Disk) impl.Disk { return with(d, slices.Repeat([]impl.DOp{appendOp("other", "")}, 200)...) }
	for _, power := range []int64{-1, 0, 1, 9} {
		for _, kind := range []int64{0, 5, 6, -1, -4, 256 + 1, 1<<32 + 2, math.MinInt64, math.MaxInt64} {
			for _, d := range []impl.Disk{{}, logDisk(""), logDisk("torn"), stuffed(impl.Disk{})} {
				checkAct(t, d, impl.Act{Kind: kind, C: reset, Power: power}, impl.StForm, d)
				checkAct(t, d, impl.Act{Kind: kind, Power: power, Torn: -1}, impl.StForm, d)
			}
			checkAct(t, noDisk(), impl.Act{Kind: kind, C: reset, Power: power}, impl.StDisk, impl.Disk{})
		}
		for kind := int64(1); kind <= 4; kind++ {
			checkAct(t, noDisk(), impl.Act{Kind: kind, Power: power, Torn: 1 - kind%2*2}, impl.StDisk, impl.Disk{})
		}
		for _, d := range []impl.Disk{{}, onDisk(impl.File{Name: "log.new", Data: long}), stuffed(impl.Disk{})} {
			checkAct(t, d, impl.Act{Kind: impl.AcAdd, C: reset, Power: power}, impl.StNone, d)
			checkAct(t, d, impl.Act{Kind: impl.AcAdd, Power: power}, impl.StNone, d)
			checkAct(t, d, impl.Act{Kind: impl.AcOpen, Power: power}, impl.StNone, d)
		}
		for _, d := range []impl.Disk{logDisk(""), logDisk("torn"), logDisk(long), stuffed(logDisk("torn"))} {
			for _, c := range []impl.Cmd{{}, to(6), feed(filled("x", 401)), {Kind: 3, A: 1}} {
				checkAct(t, d, impl.Act{Kind: impl.AcAdd, C: c, Power: power}, impl.StForm, d)
			}
		}
		for _, d := range []impl.Disk{logDisk("torn"), logDisk(long), stuffed(logDisk(long)), stuffed(logDisk("torn"))} {
			checkAct(t, d, impl.Act{Kind: impl.AcAdd, C: reset, Sync: true, Power: power}, impl.StTorn, d)
		}
		d := stuffed(impl.Disk{})
		checkAct(t, d, impl.Act{Kind: impl.AcCrash, Keep: []int64{200}, Power: power}, impl.StForm, d)
		checkAct(t, d, impl.Act{Kind: impl.AcCrash, Torn: -1, Power: power}, impl.StForm, d)
	}
	checkView(t, noDisk(), impl.StDisk)
	checkView(t, impl.Disk{}, impl.StNone)
}

// A step that would be refused is not made where there is no power for it.
func TestStepsThatAreRefused(t *testing.T) {
	good, torn := entries(0, cmds[:2]...), entries(0, cmds[:2]...)+"x"
	refused := func(d impl.Disk, a impl.Act, made int64) {
		t.Helper()
		for _, power := range []int64{-1, made + 1, made + 2, 100} {
			a.Power = power
			checkAct(t, d, a, impl.StFull, d)
		}
		for power := range made + 1 {
			a.Power = power
			if e, code := impl.StoreDo(d, a); code != impl.StPower || power == 0 && !sameDisk(e, d) || power > 0 && sameDisk(e, d) {
				t.Fatalf("%s, with power %d, becomes %s, %d", diskText(d), power, diskText(e), code)
			}
		}
	}
	ops := func(d impl.Disk, n int) impl.Disk {
		return with(d, slices.Repeat([]impl.DOp{appendOp("other", "")}, n)...)
	}
	both := onDisk(impl.File{Name: "log", Data: torn}, impl.File{Name: "log.new", Data: "left"})
	refused(ops(impl.Disk{}, 200), create, 0)
	refused(ops(logDisk(good), 200), add(reset, true), 0)
	refused(ops(logDisk(good), 200), add(reset, false), 0)
	refused(ops(logDisk(torn), 200), open, 0)
	refused(ops(both, 200), open, 0)
	// The first step is made, and undone as the next one is refused.
	refused(ops(both, 199), open, 1)
	checkAct(t, ops(both, 199), impl.Act{Kind: impl.AcOpen, Power: 1}, impl.StPower, with(ops(both, 199), removeOp("log.new")))
	for n, d := range map[int]impl.Disk{199: logDisk(torn), 198: both} {
		if e, code := impl.StoreDo(ops(d, n), open); code != impl.StOk || !sameDisk(e, onDisk(impl.File{Name: "log", Data: good}, impl.File{Name: "other"})) {
			t.Errorf("%d ops: %s, %d", n, diskText(e), code)
		}
	}
	// Many files.
	refused(onDisk(someFiles(60, 0)...), create, 0)
	refused(onDisk(append(someFiles(59, 0), impl.File{Name: "log", Data: torn})...), open, 0)
	checkSteps(t, onDisk(append(someFiles(59, 0), impl.File{Name: "log", Data: good})...), add(reset, false), onDisk(append(someFiles(59, 0), impl.File{Name: "log", Data: good})...), doing(appendOp("log", entries(2, reset))))
	// Many bytes.
	filler := func(log string, n int) impl.Disk {
		return onDisk(impl.File{Name: "f", Data: filled("x", 200000-len(log)-n)}, impl.File{Name: "log", Data: log})
	}
	size := len(entries(2, reset))
	refused(filler(good, size-1), add(reset, true), 0)
	d := filler(good, size)
	checkSteps(t, d, add(reset, true), d, doing(appendOp("log", entries(2, reset))), syncing)
	refused(filler(torn, len(good)-1), open, 0)
	d = filler(torn, len(good))
	checkSteps(t, d, open, d, doing(appendOp("log.new", good)), syncing, doing(renameOp("log.new", "log")), syncing)
	d = filler(torn+"yz", len(good)-3)
	refused(onDisk(d.Live[0], impl.File{Name: "log", Data: torn}, impl.File{Name: "log.new", Data: "yz"}), open, 1)
	d = filler(torn+"yz", len(good)-2)
	d = onDisk(d.Live[0], impl.File{Name: "log", Data: torn}, impl.File{Name: "log.new", Data: "yz"})
	checkSteps(t, d, open, d, doing(removeOp("log.new")), doing(appendOp("log.new", good)), syncing, doing(renameOp("log.new", "log")), syncing)
}

func TestPowerIsLostOfAJournal(t *testing.T) {
	good := entries(0, cmds[:2]...)
	third, fourth := entries(2, cmds[2]), entries(3, cmds[3])
	d := with(logDisk(good), appendOp("log", third), appendOp("log", fourth), appendOp("other", "abc"))
	for _, r := range []struct {
		keep []int64
		torn int64
		left string
		want int
	}{
		{nil, 0, good, 2}, {[]int64{0}, 100, good + third, 3}, {[]int64{0, 1}, 100, good + third + fourth, 4}, {[]int64{1}, 100, good + fourth, 2}, {[]int64{0}, 0, good, 2}, {[]int64{0}, 5, good + third[:5], 2}, {[]int64{0, 1}, 9, good + third + fourth[:9], 3}, {[]int64{1}, 8, good + fourth[:8], 2},
	} {
		left := logDisk(r.left)
		a := crash(r.torn, r.keep...)
		counts := entries(0, cmds[:r.want]...)
		var e impl.Disk
		if counts == r.left {
			e = checkSteps(t, d, a, left)
		} else {
			e = checkSteps(t, d, a, left, doing(appendOp("log.new", counts)), syncing, doing(renameOp("log.new", "log")), syncing)
		}
		checkView(t, e, impl.StOk, cmds[:r.want]...)
	}
	for _, keep := range [][]int64{{3}, {-1}, {0, 0}, {1, 0}, {0, 1, 2, 3}} {
		checkAct(t, d, crash(9, keep...), impl.StForm, d)
	}
	checkAct(t, d, crash(-1), impl.StForm, d)
	checkAct(t, d, crash(math.MinInt64, 0, 1), impl.StForm, d)
	// Where no log is left, the disk is what the loss of power has left.
	d = with(onDisk(impl.File{Name: "other"}), appendOp("log", ""), appendOp("log", entries(0, reset)), appendOp("other", "xyz"))
	checkAct(t, d, crash(9), impl.StNone, onDisk(impl.File{Name: "other"}))
	checkAct(t, d, crash(2, 2), impl.StNone, onDisk(impl.File{Name: "other", Data: "xy"}))
	checkAct(t, impl.Disk{}, crash(0), impl.StNone, impl.Disk{})
	checkAct(t, d, crash(0, 0), impl.StOk, onDisk(impl.File{Name: "log"}, impl.File{Name: "other"}))
	checkAct(t, with(logDisk(good), removeOp("log")), crash(0, 0), impl.StNone, impl.Disk{})
	checkAct(t, with(logDisk(good), removeOp("log")), crash(0), impl.StOk, logDisk(good))
	// Where what is left can't be opened, too.
	full := with(onDisk(append(someFiles(59, 0), impl.File{Name: "log", Data: good})...), appendOp("log", third), appendOp("f100", "abc"))
	left := append(someFiles(59, 0), impl.File{Name: "log", Data: good + third[:4]})
	checkAct(t, full, crash(4, 0), impl.StFull, onDisk(left...))
	checkAct(t, full, crash(100, 0, 1), impl.StOk, onDisk(full.Live...))
	none := crash(4, 0)
	none.Power = 0
	checkAct(t, full, none, impl.StPower, onDisk(left...))
	big := with(impl.Disk{}, appendOp("a", filled("x", 150000)), removeOp("a"), appendOp("log", ""), appendOp("b", filled("x", 150000)))
	checkAct(t, big, crash(200000, 0, 2, 3), impl.StForm, big)
}

// subsets answers all choices of n places.
func subsets(n int) [][]int64 {
	var all [][]int64
	for set := range 1 << n {
		var keep []int64
		for at := range n {
			if set>>at&1 == 1 {
				keep = append(keep, int64(at))
			}
		}
		all = append(all, keep)
	}
	return all
}

// tornsOf answers of how many bytes an append may be torn.
func tornsOf(d impl.Disk, keep []int64) []int64 {
	if len(keep) == 0 || d.Ops[keep[len(keep)-1]].Kind != impl.DkAppend {
		return []int64{0}
	}
	var torns []int64
	for n := range len(d.Ops[keep[len(keep)-1]].Data) + 1 {
		torns = append(torns, int64(n))
	}
	return torns
}

// ledger is a journal, and what of it is to outlive a loss of power: whether
// there was a log at the last sync, what it had, and the commands since.
type ledger struct {
	disk  impl.Disk
	was   bool
	had   []impl.Cmd
	since []impl.Cmd
}

// after tells what an act leaves; which commands are safe is told by the acts
// alone.
func (l ledger) after(t *testing.T, a impl.Act) ledger {
	t.Helper()
	d, code := impl.StoreDo(l.disk, a)
	if code != impl.StOk && code != impl.StPower {
		t.Fatalf("%s, with %#v done, tells %d", diskText(l.disk), a, code)
	}
	next := ledger{d, l.was, l.had, l.since}
	all := slices.Concat(l.had, l.since)
	synced := false
	switch a.Kind {
	case impl.AcNew:
		synced = code == impl.StOk
	case impl.AcAdd:
		if a.Power != 0 {
			all = append(all, a.C)
			next.since = append(slices.Clone(l.since), a.C)
		}
		synced = a.Sync && code == impl.StOk
	default:
		synced = len(d.Ops) == 0
	}
	if synced {
		next.was, next.had, next.since = true, all, nil
	}
	return next
}

// checkLeft asks whether a journal that is left has what it had at the last
// sync, or behind some first ones of the commands since.
func (l ledger) checkLeft(t *testing.T, d impl.Disk) []impl.Cmd {
	t.Helper()
	list, code := impl.StoreView(d)
	if code == impl.StNone && !l.was {
		return nil
	}
	all := slices.Concat(l.had, l.since)
	if code != impl.StOk || len(list) < len(l.had) || len(list) > len(all) || !slices.Equal(list, all[:len(list)]) {
		t.Fatalf("%s is left as %s with %v, %d, of %v and %v", diskText(l.disk), diskText(d), list, code, l.had, l.since)
	}
	return list
}

// checkLosses loses power with every choice of what is kept, and opens the
// journal. With again, it opens it with power for any number of steps, too, and
// loses it again between them.
func (l ledger) checkLosses(t *testing.T, again bool) int {
	t.Helper()
	count := 0
	for _, keep := range subsets(len(l.disk.Ops)) {
		for _, torn := range tornsOf(l.disk, keep) {
			count++
			d, code := impl.StoreDo(l.disk, crash(torn, keep...))
			left := l.checkLeft(t, d)
			switch {
			case code == impl.StOk:
				checkTakes(t, d, left)
			case code != impl.StNone || l.was:
				t.Fatalf("%s, of which %v is kept, the last one %d long, tells %d", diskText(l.disk), keep, torn, code)
			}
			if again {
				count += l.checkLostAgain(t, crash(torn, keep...))
			}
		}
	}
	return count
}

// checkLostAgain loses power while a journal is opened behind a loss of power.
func (l ledger) checkLostAgain(t *testing.T, a impl.Act) int {
	t.Helper()
	count := 0
	for power := range int64(6) {
		d, code := impl.StoreDo(l.disk, powered(a, power))
		left := l.checkLeft(t, d)
		if code != impl.StPower {
			break
		}
		checkView(t, d, impl.StOk, left...)
		count += ledger{d, true, left, nil}.checkLosses(t, false)
	}
	return count
}

// checkTakes asks whether a journal that was opened takes a command more.
func checkTakes(t *testing.T, d impl.Disk, had []impl.Cmd) {
	t.Helper()
	c := feed("more")
	e, code := impl.StoreDo(d, add(c, true))
	list, k := impl.StoreView(e)
	if code != impl.StOk || k != impl.StOk || !slices.Equal(list, append(slices.Clone(had), c)) {
		t.Fatalf("%s takes no command: %d; it has %v, %d", diskText(d), code, list, k)
	}
}

func powered(a impl.Act, power int64) impl.Act {
	a.Power = power
	return a
}

func TestPowerIsLostBetweenAnyTwoSteps(t *testing.T) {
	t.Parallel()
	stories := [][]impl.Act{
		{create, add(cmds[0], false), add(cmds[1], true), add(cmds[2], false), add(cmds[3], false), add(cmds[4], false), add(cmds[5], true)},
		{powered(create, 1), add(cmds[0], false), add(cmds[1], false), open, add(cmds[2], true), add(cmds[3], false)},
		{create, powered(add(cmds[0], true), 1), powered(add(cmds[1], true), 0), powered(add(cmds[2], true), 1), add(cmds[3], true)},
		// Of the two commands that are not safe the last one is torn, and the
		// journal is opened with power for some steps only.
		{create, add(cmds[0], true), add(cmds[1], false), add(cmds[2], false), powered(crash(9, 0, 1), 0), powered(open, 0), powered(open, 1), powered(open, 3), powered(open, 4)},
		{create, add(cmds[5], false), powered(crash(12, 0), 1), powered(open, 2), powered(open, 4), add(cmds[1], false), add(cmds[2], true)},
		// The log that is renamed is not safe yet when commands come.
		{create, add(cmds[0], true), add(cmds[1], false), powered(crash(5, 0), 3), add(cmds[2], false), add(cmds[3], false), add(cmds[4], true)},
		{create, add(cmds[0], false), add(cmds[1], false), powered(crash(10, 1), 3), add(cmds[1], false), open, add(cmds[2], true), open},
		{create, add(cmds[0], true), add(cmds[1], false), crash(5, 0), add(cmds[2], false), crash(5, 0), add(cmds[3], true), crash(0), add(cmds[4], false)},
	}
	for i, story := range stories {
		l := ledger{}
		count := l.checkLosses(t, true)
		for _, a := range story {
			if a.Kind == impl.AcCrash {
				d, _ := impl.StoreDo(l.disk, a)
				l = ledger{d, true, l.checkLeft(t, d), nil}
				count += l.checkLosses(t, true)
				continue
			}
			for power := range int64(6) {
				if power < a.Power || a.Power < 0 {
					count += l.after(t, powered(a, power)).checkLosses(t, false)
				}
			}
			l = l.after(t, a)
			count += l.checkLosses(t, true)
		}
		if count < 100 {
			t.Errorf("story %d has %d losses", i, count)
		}
	}
}

// randomAct answers an act that may be refused.
func randomAct(r *rand.Rand, d impl.Disk) impl.Act {
	a := impl.Act{Kind: 1 + r.Int64N(4), C: cmds[r.IntN(len(cmds))], Sync: r.IntN(3) == 0, Power: r.Int64N(6) - 1, Torn: r.Int64N(20)}
	switch r.IntN(20) {
	case 0:
		a.Kind = r.Int64N(9) - 2
	case 1:
		a.C = impl.Cmd{Kind: r.Int64N(5), A: 9}
	case 2:
		a.Torn = -1
	default:
		if r.IntN(2) == 0 {
			a.Kind = impl.AcAdd
		}
	}
	a.Keep = randomKeep(r, len(d.Ops))
	return a
}

// acted is the tests' own StoreDo: by the tests' own disks, step by step.
func acted(d impl.Disk, a impl.Act) (impl.Disk, int64) {
	if !isDisk(d) {
		return impl.Disk{}, 1
	}
	start := d
	if a.Kind == 4 {
		left, ok := lost(d, a.Keep, a.Torn)
		if !ok {
			return d, 3
		}
		start = left
	}
	steps, code := stagesOf(start, a)
	if code != 0 {
		return start, code
	}
	next := start
	for i, s := range steps {
		if int64(i) == a.Power {
			return next, 5
		}
		if s.op == nil {
			next = onDisk(next.Live...)
			continue
		}
		e, code := done(next, *s.op)
		if code != 0 {
			return start, 4
		}
		next = e
	}
	return next, 0
}

func stagesOf(d impl.Disk, a impl.Act) ([]stage, int64) {
	files := mapOf(d.Live)
	log, there := files["log"]
	count, end := countedIn(log)
	var steps []stage
	switch {
	case a.Kind < 1 || a.Kind > 4 || a.Kind == 1 && there:
		return nil, 3
	case a.Kind == 1:
		return []stage{doing(appendOp("log", "")), syncing}, 0
	case !there:
		return nil, 2
	case a.Kind == 2 && !isCmd(a.C):
		return nil, 3
	case a.Kind == 2 && end < len(log):
		return nil, 6
	case a.Kind == 2 && count == 100:
		return nil, 4
	case a.Kind == 2:
		steps = append(steps, doing(appendOp("log", entries(count, a.C))))
		if a.Sync {
			steps = append(steps, syncing)
		}
		return steps, 0
	case end == len(log):
		return nil, 0
	}
	if _, there := files["log.new"]; there {
		steps = append(steps, doing(removeOp("log.new")))
	}
	return append(steps, doing(appendOp("log.new", log[:end])), syncing, doing(renameOp("log.new", "log")), syncing), 0
}

// countedIn tells how many commands of a log count, and where they end.
func countedIn(log string) (int, int) {
	frames, _ := framedIn(log)
	count, end := 0, 0
	for _, data := range frames {
		text, ok := strings.CutPrefix(data, strconv.Itoa(count)+" ")
		if !ok || count == 100 || !cmdForm.MatchString(text) {
			break
		}
		count++
		end += 8 + len(data)
	}
	return count, end
}

func TestJournalsOfManyActs(t *testing.T) {
	t.Parallel()
	r := rand.New(rand.NewPCG(83, 84))
	seen := [7]int{}
	for range 150 {
		var d impl.Disk
		first := d
		var acts []impl.Act
		var codes []int64
		for range 40 {
			a := randomAct(r, d)
			want, code := acted(d, a)
			checkAct(t, d, a, code, want)
			seen[code]++
			acts, codes = append(acts, a), append(codes, code)
			d = want
			if r.IntN(15) == 0 {
				// What is done to a disk, but not by a journal.
				op := appendOp([]string{"log", "log.new"}[r.IntN(2)], randomBytes(r, r.Int64N(30)))
				d = with(d, op)
				first, acts, codes = d, nil, nil
			}
		}
		e, told := impl.StorePlay(first, acts)
		if !sameDisk(e, d) || !slices.Equal(told, codes) {
			t.Fatalf("%s, with %#v played, becomes %s, %v, not %s, %v", diskText(first), acts, diskText(e), told, diskText(d), codes)
		}
	}
	seen[impl.StDisk], seen[impl.StFull] = 100, 100
	if slices.Min(seen[:]) < 100 {
		t.Errorf("codes %v", seen)
	}
}

func TestPlaysOfActs(t *testing.T) {
	acts := []impl.Act{create, create, add(cmds[0], false), {Kind: 9}, powered(add(cmds[1], true), 1), powered(add(cmds[2], true), 0), add(impl.Cmd{}, true), crash(9, 7), crash(100, 0), open, add(cmds[3], true)}
	d, codes := impl.StorePlay(impl.Disk{}, acts)
	if !slices.Equal(codes, []int64{0, impl.StForm, 0, impl.StForm, impl.StPower, impl.StPower, impl.StForm, impl.StForm, 0, 0, 0}) {
		t.Errorf("codes %v", codes)
	}
	checkView(t, d, impl.StOk, cmds[0], cmds[3])
	if !sameDisk(d, logDisk(entries(0, cmds[0], cmds[3]))) {
		t.Errorf("%s", diskText(d))
	}
	for _, d := range []impl.Disk{{}, logDisk("torn"), with(logDisk(""), appendOp("log", "x"))} {
		if e, codes := impl.StorePlay(d, nil); !sameDisk(e, d) || len(codes) != 0 {
			t.Errorf("%s becomes %s, %v", diskText(d), diskText(e), codes)
		}
	}
	for _, list := range [][]impl.Act{nil, {create}, acts} {
		if e, codes := impl.StorePlay(noDisk(), list); !sameDisk(e, impl.Disk{}) || len(codes) != 0 {
			t.Errorf("becomes %s, %v", diskText(e), codes)
		}
	}
	if _, codes := impl.StorePlay(impl.Disk{}, slices.Repeat([]impl.Act{create}, 1000)); len(codes) != 1000 || codes[0] != 0 || codes[999] != impl.StForm {
		t.Errorf("%d codes", len(codes))
	}
}

// What is recovered is what the commands come to, a relay that tells among it.
func TestRecovered(t *testing.T) {
	r := rand.New(rand.NewPCG(85, 86))
	for range 30 {
		stream := ""
		var list []impl.Cmd
		d, _ := impl.StoreDo(impl.Disk{}, create)
		for range r.IntN(30) {
			c := randomCmd(t, r, &stream)
			e, code := impl.StoreDo(d, add(c, r.IntN(2) == 0))
			if isCmd(c) {
				list = append(list, c)
			}
			if isCmd(c) != (code == impl.StOk) {
				t.Fatalf("%#v is added: %d", c, code)
			}
			d = e
		}
		checkView(t, d, impl.StOk, list...)
		relay, answers, _ := impl.Recovered(d)
		if own, told := impl.Play(list); own != relay || !slices.EqualFunc(told, answers, sameAnswer) {
			t.Fatalf("%#v is recovered as %#v, %#v", list, relay, answers)
		}
	}
}

func TestFramesOfDataLeaveAlone(t *testing.T) {
	data, other := strings.Clone("some data"), strings.Clone("other data")
	one, two := impl.FrameOf(data), impl.FrameOf(data)
	if one != two || data != "some data" {
		t.Errorf("%q, then %q", one, two)
	}
	checkNewTexts(t, []string{one, two}, []string{data})
	stream := one + impl.FrameOf(other) + "tail"
	list, end := impl.TakeFrames(stream)
	again, at := impl.TakeFrames(stream)
	if end != at || !slices.Equal(list, again) || !slices.Equal(list, []string{data, other}) {
		t.Errorf("%q, then %q", list, again)
	}
	checkNewTexts(t, slices.Concat(list, again), []string{stream})
	clear(list)
	checkTaken(t, stream, again, at)
}

func TestJournalsLeaveAlone(t *testing.T) {
	log := entries(0, cmds[:3]...)
	keep := []int64{0, 1, 77}
	c := feed(strings.Clone("some data"))
	acts := []impl.Act{create, add(c, false), add(c, true), open, powered(open, 2), {Kind: 9}, {Kind: impl.AcCrash, Keep: keep[:1], Torn: 5, Power: -1}, {Kind: impl.AcCrash, Keep: keep[:2], Torn: 5, Power: 2}, {Kind: impl.AcCrash, Keep: keep, Power: -1}}
	for _, d := range []impl.Disk{{}, logDisk(log), logDisk(log + "torn"), with(logDisk(log), appendOp("log", entries(3, cmds[3])), appendOp("log", entries(4, cmds[4]))), with(onDisk(impl.File{Name: "log", Data: log + "torn"}, impl.File{Name: "log.new", Data: "left"}), appendOp("other", "data"))} {
		for i, a := range acts {
			checkDiskAlone(t, d, func(d impl.Disk) impl.Disk { e, _ := impl.StoreDo(d, a); return e }, c.Data)
			list := slices.Clone(acts[:i+1])
			checkDiskAlone(t, d, func(d impl.Disk) impl.Disk { e, _ := impl.StorePlay(d, list[:i]); return e }, c.Data)
			if list[i].Kind != a.Kind || list[i].C != a.C || list[i].Power != a.Power {
				t.Fatalf("%#v became %#v", a, list[i])
			}
		}
		if !slices.Equal(keep, []int64{0, 1, 77}) || c.Data != "some data" {
			t.Errorf("%v, %q", keep, c.Data)
		}
		view, code := impl.StoreView(d)
		twice, again := impl.StoreView(d)
		if code != again || !slices.Equal(view, twice) {
			t.Errorf("%v, then %v", view, twice)
		}
		for i, c := range view {
			checkApart(t, []string{c.Data}, append(diskTexts(d), twice[i].Data))
		}
		clear(view)
		checkView(t, d, code, twice...)
		relay, answers, _ := impl.Recovered(d)
		other, told, _ := impl.Recovered(d)
		if relay != other || !slices.EqualFunc(answers, told, sameAnswer) {
			t.Errorf("%#v, then %#v", answers, told)
		}
		checkApart(t, []string{relay.F.Buf}, append(diskTexts(d), other.F.Buf))
	}
}
