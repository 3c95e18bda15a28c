package tests

import (
	"maps"
	"math"
	"math/rand/v2"
	"slices"
	"strconv"
	"strings"
	"testing"

	"loop.example/g00774/impl"
)

// fileMap is the tests' own reading of files.
type fileMap map[string]string

func mapOf(list []impl.File) fileMap {
	m := fileMap{}
	for _, f := range list {
		m[f.Name] = f.Data
	}
	return m
}

func (m fileMap) files() []impl.File {
	var list []impl.File
	for _, name := range slices.Sorted(maps.Keys(m)) {
		list = append(list, impl.File{Name: name, Data: m[name]})
	}
	return list
}

// fits tells whether there are not too many files or bytes.
func (m fileMap) fits() bool {
	sum := 0
	for _, data := range m {
		sum += len(data)
	}
	return len(m) <= 60 && sum <= 200000
}

// do tells whether op found its file.
func (m fileMap) do(op impl.DOp) bool {
	data, there := m[op.Name]
	switch op.Kind {
	case 1:
		m[op.Name] = data + op.Data
		return true
	case 2:
		if there {
			delete(m, op.Name)
			m[op.To] = data
		}
	case 3:
		delete(m, op.Name)
	}
	return there
}

func inBounds(name string) bool {
	return name != "" && len(name) <= 100
}

func isOp(op impl.DOp) bool {
	if !inBounds(op.Name) {
		return false
	}
	return op.Kind == 1 && op.To == "" || op.Kind == 2 && inBounds(op.To) && op.Data == "" || op.Kind == 3 && op.To == "" && op.Data == ""
}

func areFiles(list []impl.File) bool {
	m := mapOf(list)
	for name := range m {
		if !inBounds(name) {
			return false
		}
	}
	return m.fits() && slices.Equal(m.files(), list)
}

// isDisk is the tests' own reading of what a right disk is.
func isDisk(d impl.Disk) bool {
	if !areFiles(d.Live) || !areFiles(d.Safe) || len(d.Ops) > 200 {
		return false
	}
	m := mapOf(d.Safe)
	for _, op := range d.Ops {
		if !isOp(op) || !m.do(op) || !m.fits() {
			return false
		}
	}
	return slices.Equal(m.files(), d.Live)
}

// done is the tests' own Do.
func done(d impl.Disk, op impl.DOp) (impl.Disk, int64) {
	m := mapOf(d.Live)
	switch {
	case !isDisk(d):
		return impl.Disk{}, 1
	case !isOp(op):
		return d, 2
	case !m.do(op):
		return d, 3
	case len(d.Ops) == 200 || !m.fits():
		return d, 4
	}
	return impl.Disk{Live: m.files(), Safe: d.Safe, Ops: append(slices.Clone(d.Ops), op)}, 0
}

// lost is the tests' own Crash.
func lost(d impl.Disk, keep []int64, torn int64) (impl.Disk, bool) {
	m := mapOf(d.Safe)
	for i, at := range keep {
		if at < 0 || at >= int64(len(d.Ops)) || i > 0 && keep[i-1] >= at {
			return impl.Disk{}, false
		}
		op := d.Ops[at]
		if i == len(keep)-1 && op.Kind == 1 && torn >= 0 && torn < int64(len(op.Data)) {
			op.Data = op.Data[:torn]
		}
		m.do(op)
	}
	if !isDisk(d) || torn < 0 || !m.fits() {
		return impl.Disk{}, false
	}
	return onDisk(m.files()...), true
}

// replaced is the tests' own Replace.
func replaced(d impl.Disk, name, data string) (impl.Disk, int64) {
	if !isDisk(d) {
		return impl.Disk{}, 1
	}
	next, other := d, name+".new"
	ops := []impl.DOp{appendOp(other, data), renameOp(other, name)}
	if _, there := mapOf(d.Live)[other]; there {
		ops = append([]impl.DOp{removeOp(other)}, ops...)
	}
	for _, op := range ops {
		e, code := done(next, op)
		if code != 0 {
			return d, code
		}
		next = e
	}
	return next, 0
}

func appendOp(name, data string) impl.DOp {
	return impl.DOp{Kind: impl.DkAppend, Name: name, Data: data}
}

func renameOp(name, to string) impl.DOp {
	return impl.DOp{Kind: impl.DkRename, Name: name, To: to}
}

func removeOp(name string) impl.DOp {
	return impl.DOp{Kind: impl.DkRemove, Name: name}
}

// onDisk answers a disk of files that are safe.
func onDisk(files ...impl.File) impl.Disk {
	return impl.Disk{Live: files, Safe: slices.Clone(files)}
}

// with answers a disk with ops done that are not safe yet.
func with(d impl.Disk, ops ...impl.DOp) impl.Disk {
	m := mapOf(d.Live)
	for _, op := range ops {
		m.do(op)
	}
	return impl.Disk{Live: m.files(), Safe: d.Safe, Ops: append(slices.Clone(d.Ops), ops...)}
}

func sameDisk(a, b impl.Disk) bool {
	return slices.Equal(a.Live, b.Live) && slices.Equal(a.Safe, b.Safe) && slices.Equal(a.Ops, b.Ops)
}

// diskText is short enough to be told, whatever the disk has.
func diskText(d impl.Disk) string {
	var b strings.Builder
	put := func(s string) {
		if len(s) > 60 {
			s = s[:50] + ".." + strconv.Itoa(len(s))
		}
		b.WriteString(" " + strconv.Quote(s))
	}
	for _, list := range [][]impl.File{d.Live, d.Safe} {
		b.WriteString(" [" + strconv.Itoa(len(list)) + "]")
		for _, f := range list[:min(len(list), 8)] {
			put(f.Name)
			put(f.Data)
		}
	}
	b.WriteString(" ops [" + strconv.Itoa(len(d.Ops)) + "]")
	for _, op := range d.Ops[:min(len(d.Ops), 12)] {
		b.WriteString(" " + strconv.FormatInt(op.Kind, 10))
		put(op.Name)
		put(op.To)
		put(op.Data)
	}
	return b.String()
}

// checkDisk asks whether a disk is right, and, where it is not, for what all
// functions tell of it.
func checkDisk(t *testing.T, d impl.Disk, want bool) {
	t.Helper()
	if ok := impl.DiskOk(d); ok != want || isDisk(d) != want {
		t.Fatalf("%s is right: %v, and not %v", diskText(d), ok, want)
	}
	if want {
		return
	}
	var none impl.Disk
	for _, op := range []impl.DOp{appendOp("a", "x"), removeOp("nowhere"), renameOp("a", "b"), {}} {
		if e, code := impl.Do(d, op); code != impl.DkDisk || !sameDisk(e, none) {
			t.Fatalf("%s becomes %s, %d", diskText(d), diskText(e), code)
		}
	}
	if e := impl.Sync(d); !sameDisk(e, none) {
		t.Fatalf("%s becomes %s", diskText(d), diskText(e))
	}
	for _, keep := range [][]int64{nil, {0}} {
		checkNotLost(t, d, keep, 0)
	}
	for _, name := range []string{"a", "b", ""} {
		checkNoFile(t, d, name)
		if e, code := impl.Replace(d, name, "x"); code != impl.DkDisk || !sameDisk(e, none) {
			t.Fatalf("%s becomes %s, %d", diskText(d), diskText(e), code)
		}
	}
}

func checkNotLost(t *testing.T, d impl.Disk, keep []int64, torn int64) {
	t.Helper()
	if e, ok := impl.Crash(d, keep, torn); ok || !sameDisk(e, impl.Disk{}) {
		t.Fatalf("%s, of which %v is kept, the last one %d long, is left as %s", diskText(d), keep, torn, diskText(e))
	}
}

func checkNoFile(t *testing.T, d impl.Disk, name string) {
	t.Helper()
	if data, ok := impl.ReadFile(d, name); ok || data != "" {
		t.Fatalf("%s has a file %q of %q, %v", diskText(d), name, data, ok)
	}
}

func checkFile(t *testing.T, d impl.Disk, name, want string) {
	t.Helper()
	if data, ok := impl.ReadFile(d, name); !ok || data != want {
		t.Fatalf("%s has a file %q of %d bytes, %v, not of %d", diskText(d), name, len(data), ok, len(want))
	}
}

func checkDone(t *testing.T, d impl.Disk, op impl.DOp, code int64) impl.Disk {
	t.Helper()
	want, k := done(d, op)
	e, got := impl.Do(d, op)
	if got != code || k != code || !sameDisk(e, want) {
		t.Fatalf("%s, with %d %.120q done, becomes %s, %d, not %s, %d", diskText(d), op.Kind, op.Name+" "+op.To+" "+op.Data, diskText(e), got, diskText(want), code)
	}
	return e
}

func checkReplaced(t *testing.T, d impl.Disk, name, data string, code int64) impl.Disk {
	t.Helper()
	want, k := replaced(d, name, data)
	e, got := impl.Replace(d, name, data)
	if got != code || k != code || !sameDisk(e, want) {
		t.Fatalf("%s, with %.120q replaced, becomes %s, %d, not %s, %d", diskText(d), name, diskText(e), got, diskText(want), code)
	}
	return e
}

func checkLost(t *testing.T, d impl.Disk, keep []int64, torn int64, want ...impl.File) {
	t.Helper()
	own, is := lost(d, keep, torn)
	e, ok := impl.Crash(d, keep, torn)
	if !ok || !is || !sameDisk(e, onDisk(want...)) || !sameDisk(e, own) {
		t.Fatalf("%s, of which %v is kept, the last one %d long, is left as %s, %v, not as %s", diskText(d), keep, torn, diskText(e), ok, diskText(own))
	}
	checkDisk(t, e, true)
}

// someFiles answers n files with rising names, and so many bytes in all.
func someFiles(n, size int) []impl.File {
	var list []impl.File
	for i := range n {
		list = append(list, impl.File{Name: "f" + strconv.Itoa(100+i)})
	}
	if n > 0 {
		list[0].Data = filled("s", size)
	}
	return list
}

func TestRightDisks(t *testing.T) {
	a, b := impl.File{Name: "a", Data: "one"}, impl.File{Name: "b", Data: "two"}
	long := impl.File{Name: filled("n", 100), Data: "x"}
	for _, d := range []impl.Disk{
		{}, onDisk(a), onDisk(a, b), onDisk(long), onDisk(impl.File{Name: "a"}), onDisk(impl.File{Name: "\x00"}, impl.File{Name: "\x00\x00"}, impl.File{Name: "\xff"}),
		onDisk(impl.File{Name: "B"}, impl.File{Name: "a"}, impl.File{Name: "a.new"}, impl.File{Name: "aa"}, impl.File{Name: "\xc3\xa4"}),
		onDisk(someFiles(60, 0)...), onDisk(someFiles(60, 200000)...), onDisk(someFiles(1, 200000)...), onDisk(someFiles(2, 199999)...),
		with(impl.Disk{}, appendOp("a", "")), with(impl.Disk{}, appendOp("a", "x"), removeOp("a")), with(onDisk(a), removeOp("a"), appendOp("a", "x")),
		with(onDisk(a, b), renameOp("a", "b")), with(onDisk(a, b), renameOp("b", "a"), renameOp("a", "c")), with(onDisk(a), renameOp("a", "a")), with(onDisk(a), renameOp("a", long.Name), renameOp(long.Name, "a")),
		with(onDisk(a), appendOp("a", "x"), appendOp("a", ""), appendOp("b", "y"), renameOp("a", "c"), appendOp("a", "z"), removeOp("b")),
		with(onDisk(someFiles(59, 0)...), appendOp("z", "")), with(onDisk(someFiles(60, 0)...), removeOp("f100"), appendOp("z", "")),
		with(onDisk(someFiles(1, 199999)...), appendOp("z", "x")), with(onDisk(someFiles(1, 200000)...), removeOp("f100"), appendOp("z", filled("x", 200000))),
		with(impl.Disk{}, slices.Repeat([]impl.DOp{appendOp("a", "x")}, 200)...), with(impl.Disk{}, slices.Repeat([]impl.DOp{appendOp("a", filled("x", 200000)), removeOp("a")}, 100)...),
	} {
		checkDisk(t, d, true)
	}
	// Files need not be in memory of their own to be alike.
	d := onDisk(a, b)
	d.Safe = d.Live
	checkDisk(t, d, true)
}

func TestNamesThatDoNotRise(t *testing.T) {
	file := func(name string) impl.File { return impl.File{Name: name, Data: "x"} }
	for _, list := range [][]impl.File{
		{file("")}, {file(filled("n", 101))}, {file(filled("n", 1000))}, {file(""), file("a")}, {file("a"), file("")}, {file("a"), file(filled("n", 101))},
		{file("a"), file("a")}, {file("b"), file("a")}, {file("a"), file("c"), file("b")}, {file("a"), file("b"), file("b")}, {file("aa"), file("a")}, {file("a"), file("B")}, {file("\xff"), file("a")}, {file("10"), file("9"), file("8")},
	} {
		checkDisk(t, impl.Disk{Live: list, Safe: list}, false)
		checkDisk(t, impl.Disk{Live: list}, false)
		checkDisk(t, impl.Disk{Safe: list}, false)
		right := mapOf(list)
		delete(right, "")
		delete(right, filled("n", 101))
		delete(right, filled("n", 1000))
		checkDisk(t, impl.Disk{Live: list, Safe: right.files()}, false)
		checkDisk(t, impl.Disk{Live: right.files(), Safe: list}, false)
	}
}

func TestDisksThatAreTooFull(t *testing.T) {
	for _, list := range [][]impl.File{someFiles(61, 0), someFiles(62, 200000), someFiles(1, 200001), someFiles(60, 200001), {{Name: "a", Data: filled("x", 100000)}, {Name: "b", Data: filled("x", 100001)}}, someFiles(1000, 0), someFiles(1, 1000000)} {
		checkDisk(t, onDisk(list...), false)
		checkDisk(t, impl.Disk{Live: list}, false)
		checkDisk(t, impl.Disk{Safe: list}, false)
	}
	// Too full for a while only, or by what is safe alone.
	checkDisk(t, with(onDisk(someFiles(60, 0)...), appendOp("z", ""), removeOp("z")), false)
	checkDisk(t, with(onDisk(someFiles(60, 0)...), appendOp("z", ""), renameOp("z", "f100")), false)
	checkDisk(t, with(onDisk(someFiles(1, 200000)...), appendOp("f100", "x"), removeOp("f100")), false)
	checkDisk(t, with(onDisk(someFiles(2, 200000)...), appendOp("z", "x"), renameOp("z", "f100")), false)
	checkDisk(t, with(onDisk(someFiles(61, 0)...), removeOp("f100")), false)
	checkDisk(t, with(onDisk(someFiles(1, 200001)...), removeOp("f100")), false)
	for _, n := range []int{201, 202, 400, 100000} {
		checkDisk(t, impl.Disk{Ops: slices.Repeat([]impl.DOp{appendOp("a", "")}, n), Live: []impl.File{{Name: "a"}}}, false)
	}
	checkDisk(t, impl.Disk{Ops: append(slices.Repeat([]impl.DOp{appendOp("a", ""), removeOp("a")}, 100), appendOp("a", "")), Live: []impl.File{{Name: "a"}}}, false)
}

// wrongOps have a form that no op has.
func wrongOps() []impl.DOp {
	ops := []impl.DOp{
		{}, appendOp("", ""), appendOp("", "x"), appendOp(filled("n", 101), ""), removeOp(""), removeOp(filled("n", 101)), renameOp("", "a"), renameOp("", ""), renameOp("a", ""), renameOp("a", filled("n", 101)), renameOp(filled("n", 101), "a"), renameOp("nowhere", ""), renameOp("nowhere", filled("n", 1000)),
		{Kind: 1, Name: "a", To: "b"}, {Kind: 1, Name: "a", To: "a", Data: "x"}, {Kind: 3, Name: "a", To: "b"}, {Kind: 3, Name: "a", To: "a"}, {Kind: 2, Name: "a", To: "b", Data: "x"}, {Kind: 2, Name: "a", Data: "x"}, {Kind: 3, Name: "a", Data: "x"}, {Kind: 3, Name: "nowhere", Data: "x"}, {Kind: 3, Name: "nowhere", To: "x"}, {Kind: 2, Name: "nowhere", To: "b", Data: "x"},
	}
	for _, kind := range []int64{0, 4, 5, -1, -3, 256 + 1, 1<<32 + 1, 1<<32 + 2, math.MinInt64, math.MaxInt64} {
		ops = append(ops, impl.DOp{Kind: kind, Name: "a"}, impl.DOp{Kind: kind, Name: "a", Data: "x"}, impl.DOp{Kind: kind, Name: "a", To: "b"}, impl.DOp{Kind: kind})
	}
	return ops
}

func TestOpsThatAreNotOfTheirForm(t *testing.T) {
	a := impl.File{Name: "a", Data: "one"}
	for _, op := range wrongOps() {
		for _, d := range []impl.Disk{{}, onDisk(a), with(onDisk(a), appendOp("b", "x")), with(impl.Disk{}, slices.Repeat([]impl.DOp{appendOp("a", "x")}, 200)...)} {
			checkDone(t, d, op, impl.DkForm)
		}
		checkDisk(t, impl.Disk{Live: []impl.File{a}, Safe: []impl.File{a}, Ops: []impl.DOp{op}}, false)
		checkDisk(t, with(onDisk(a), op), false)
		checkDisk(t, with(onDisk(a), appendOp("a", "x"), op, appendOp("a", "y")), false)
	}
}

func TestOpsThatDoNotMakeLiveOfSafe(t *testing.T) {
	a, b := impl.File{Name: "a", Data: "one"}, impl.File{Name: "b", Data: "two"}
	right := with(onDisk(a, b), appendOp("a", "x"), renameOp("b", "c"))
	for _, live := range [][]impl.File{
		nil, {a, b}, right.Live[:1], right.Live[1:], {{Name: "a", Data: "onex"}, {Name: "b", Data: "two"}}, {{Name: "a", Data: "ony"}, right.Live[1]}, {{Name: "a", Data: "onexx"}, right.Live[1]}, {right.Live[0], {Name: "c", Data: "twO"}}, {right.Live[0], {Name: "c"}}, {right.Live[0], right.Live[1], {Name: "d"}}, {right.Live[1], right.Live[0]}, {right.Live[0], right.Live[0]},
	} {
		checkDisk(t, impl.Disk{Live: live, Safe: right.Safe, Ops: right.Ops}, false)
	}
	checkDisk(t, right, true)
	for _, ops := range [][]impl.DOp{nil, right.Ops[:1], right.Ops[1:], append(slices.Clone(right.Ops), appendOp("a", "x")), append(slices.Clone(right.Ops), removeOp("c")), {right.Ops[0], right.Ops[0], right.Ops[1]}} {
		checkDisk(t, impl.Disk{Live: right.Live, Safe: right.Safe, Ops: ops}, false)
	}
	// These come to the same.
	checkDisk(t, impl.Disk{Live: right.Live, Safe: right.Safe, Ops: []impl.DOp{right.Ops[1], right.Ops[0]}}, true)
	checkDisk(t, impl.Disk{Live: right.Live, Safe: right.Safe, Ops: append(slices.Clone(right.Ops), appendOp("a", ""))}, true)
	checkDisk(t, impl.Disk{Live: right.Live, Ops: right.Ops}, false)
	checkDisk(t, impl.Disk{Safe: []impl.File{a}}, false)
	checkDisk(t, impl.Disk{Live: []impl.File{a}}, false)
	// An op that finds no file, though what is left is as it should be.
	for _, op := range []impl.DOp{removeOp("z"), renameOp("z", "a"), renameOp("z", "y"), renameOp("z", "z"), removeOp("b"), renameOp("b", "a")} {
		checkDisk(t, impl.Disk{Live: right.Live, Safe: right.Safe, Ops: append(slices.Clone(right.Ops), op)}, false)
	}
	checkDisk(t, impl.Disk{Live: right.Live, Safe: right.Safe, Ops: append([]impl.DOp{removeOp("c")}, right.Ops...)}, false)
}

func TestDoEachKind(t *testing.T) {
	d := onDisk(impl.File{Name: "b", Data: "two"}, impl.File{Name: "d", Data: "four"})
	for _, op := range []impl.DOp{
		appendOp("b", "x"), appendOp("b", ""), appendOp("a", "x"), appendOp("a", ""), appendOp("c", "x"), appendOp("e", "\x00\xff"), appendOp(filled("n", 100), "x"), appendOp("b", filled("x", 199988)),
		renameOp("b", "a"), renameOp("b", "c"), renameOp("b", "d"), renameOp("d", "b"), renameOp("b", "e"), renameOp("d", "a"), renameOp("b", "b"), renameOp("b", filled("n", 100)), renameOp("d", "d"), removeOp("b"), removeOp("d"),
	} {
		e := checkDone(t, d, op, impl.DkOk)
		checkDisk(t, e, true)
		f := checkDone(t, checkDone(t, e, appendOp("b", "again"), impl.DkOk), renameOp("b", "d"), impl.DkOk)
		checkDisk(t, f, true)
		if e.Ops[0] != op || len(f.Ops) != 3 || !slices.Equal(f.Safe, d.Live) {
			t.Errorf("%s", diskText(f))
		}
	}
	// Whatever To was, and where it is the file itself.
	if e, _ := impl.Do(d, renameOp("d", "b")); !slices.Equal(e.Live, []impl.File{{Name: "b", Data: "four"}}) {
		t.Errorf("%s", diskText(e))
	}
	if e, _ := impl.Do(d, renameOp("d", "d")); !slices.Equal(e.Live, d.Live) {
		t.Errorf("%s", diskText(e))
	}
	for _, name := range []string{"a", "c", "e", "bb", "B", "b.new", filled("n", 100)} {
		checkDone(t, d, removeOp(name), impl.DkNone)
		checkDone(t, d, renameOp(name, "b"), impl.DkNone)
		checkDone(t, d, renameOp(name, name), impl.DkNone)
		checkDone(t, d, renameOp(name, "z"), impl.DkNone)
		checkDone(t, impl.Disk{}, removeOp(name), impl.DkNone)
	}
	// A file that was is none, though it is still safe.
	gone := with(d, removeOp("b"))
	checkDone(t, gone, removeOp("b"), impl.DkNone)
	checkDone(t, gone, renameOp("b", "z"), impl.DkNone)
	checkDone(t, gone, appendOp("b", "x"), impl.DkOk)
}

func TestDoWhereItIsFull(t *testing.T) {
	many := func(n int) impl.Disk {
		return with(impl.Disk{}, slices.Repeat([]impl.DOp{appendOp("f100", "x")}, n)...)
	}
	for _, op := range []impl.DOp{appendOp("f100", "x"), appendOp("f100", ""), appendOp("z", ""), renameOp("f100", "z"), renameOp("f100", "f100"), removeOp("f100")} {
		checkDone(t, many(198), op, impl.DkOk)
		checkDisk(t, checkDone(t, many(199), op, impl.DkOk), true)
		checkDone(t, many(200), op, impl.DkFull)
	}
	// Many files.
	for n, code := range map[int]int64{58: impl.DkOk, 59: impl.DkOk, 60: impl.DkFull} {
		d := onDisk(someFiles(n, 5)...)
		for _, op := range []impl.DOp{appendOp("z", ""), appendOp("z", "x"), appendOp("a", ""), appendOp("f100.new", "")} {
			checkDone(t, d, op, code)
		}
		for _, op := range []impl.DOp{appendOp("f100", "x"), renameOp("f100", "z"), renameOp("f100", "f101"), removeOp("f100")} {
			checkDone(t, d, op, impl.DkOk)
		}
	}
	// Many bytes.
	for n, code := range map[int]int64{199998: impl.DkOk, 199999: impl.DkOk, 200000: impl.DkFull} {
		d := onDisk(someFiles(2, n)...)
		for _, name := range []string{"f100", "f101", "z"} {
			checkDone(t, d, appendOp(name, "x"), code)
			checkDone(t, d, appendOp(name, ""), impl.DkOk)
			checkDone(t, d, appendOp(name, filled("x", 200000-n)), impl.DkOk)
			checkDone(t, d, appendOp(name, filled("x", 200001-n)), impl.DkFull)
		}
		for _, op := range []impl.DOp{renameOp("f100", "z"), renameOp("f100", "f101"), renameOp("f101", "f100"), removeOp("f101"), removeOp("f100")} {
			checkDone(t, d, op, impl.DkOk)
		}
	}
	checkDone(t, impl.Disk{}, appendOp("a", filled("x", 200000)), impl.DkOk)
	checkDone(t, impl.Disk{}, appendOp("a", filled("x", 200001)), impl.DkFull)
	checkDone(t, impl.Disk{}, appendOp("a", filled("x", 10000000)), impl.DkFull)
}

func TestWhatDoTellsFirst(t *testing.T) {
	full := with(onDisk(someFiles(60, 199800)...), slices.Repeat([]impl.DOp{appendOp("f159", "x")}, 200)...)
	checkDisk(t, full, true)
	for _, op := range wrongOps() {
		checkDone(t, full, op, impl.DkForm)
	}
	for _, op := range []impl.DOp{removeOp("z"), renameOp("z", "f100"), renameOp("z", "z")} {
		checkDone(t, full, op, impl.DkNone)
	}
	for _, op := range []impl.DOp{appendOp("f100", ""), appendOp("z", filled("x", 200001)), removeOp("f100"), renameOp("f100", "f101")} {
		checkDone(t, full, op, impl.DkFull)
	}
	wrong := full
	wrong.Safe = nil
	for _, op := range append(wrongOps(), removeOp("z"), appendOp("f100", "x"), removeOp("f100")) {
		checkDone(t, wrong, op, impl.DkDisk)
	}
}

func TestSyncAndReadFile(t *testing.T) {
	a, b := impl.File{Name: "a", Data: "one"}, impl.File{Name: "b"}
	for _, d := range []impl.Disk{
		{}, onDisk(a), onDisk(a, b), with(onDisk(a, b), appendOp("a", "x"), renameOp("b", "c")), with(onDisk(a, b), removeOp("a"), removeOp("b")), with(impl.Disk{}, appendOp("a", "")), with(onDisk(a), renameOp("a", "b")), onDisk(someFiles(60, 200000)...), with(impl.Disk{}, slices.Repeat([]impl.DOp{appendOp("a", "x")}, 200)...),
	} {
		e := impl.Sync(d)
		if !sameDisk(e, onDisk(d.Live...)) {
			t.Errorf("%s becomes %s", diskText(d), diskText(e))
		}
		checkDisk(t, e, true)
		seen := mapOf(d.Live)
		for _, name := range []string{"", "a", "b", "c", "aa", "A", "a.new", "f100", "f159", "f160", filled("n", 100), filled("n", 101)} {
			for _, disk := range []impl.Disk{d, e} {
				if data, there := seen[name]; there {
					checkFile(t, disk, name, data)
				} else {
					checkNoFile(t, disk, name)
				}
			}
		}
	}
}

func TestPowerIsLost(t *testing.T) {
	a, b := impl.File{Name: "a", Data: "one"}, impl.File{Name: "b", Data: "two"}
	file := func(name, data string) impl.File { return impl.File{Name: name, Data: data} }
	d := with(onDisk(a, b), appendOp("a", "xyz"), appendOp("c", "new"), renameOp("a", "b"), removeOp("c"), appendOp("b", "end"))
	for _, r := range []struct {
		keep []int64
		torn int64
		want []impl.File
	}{
		{nil, 0, []impl.File{a, b}}, {nil, 1, []impl.File{a, b}}, {[]int64{}, math.MaxInt64, []impl.File{a, b}},
		{[]int64{0, 1, 2, 3, 4}, 3, d.Live}, {[]int64{0, 1, 2, 3, 4}, 4, d.Live}, {[]int64{0, 1, 2, 3, 4}, math.MaxInt64, d.Live}, {[]int64{0, 1, 2, 3, 4}, 2, []impl.File{file("b", "onexyzen")}}, {[]int64{0, 1, 2, 3, 4}, 0, []impl.File{file("b", "onexyz")}},
		{[]int64{0}, 0, []impl.File{a, b}}, {[]int64{0}, 1, []impl.File{file("a", "onex"), b}}, {[]int64{0}, 2, []impl.File{file("a", "onexy"), b}}, {[]int64{0}, 3, []impl.File{file("a", "onexyz"), b}}, {[]int64{0}, 4, []impl.File{file("a", "onexyz"), b}},
		// A file is there, though none of its bytes is.
		{[]int64{1}, 0, []impl.File{a, b, file("c", "")}}, {[]int64{1}, 2, []impl.File{a, b, file("c", "ne")}}, {[]int64{0, 1}, 0, []impl.File{file("a", "onexyz"), b, file("c", "")}},
		// Only the last one is torn, and only when it is an append.
		{[]int64{0, 2}, 0, []impl.File{file("b", "onexyz")}}, {[]int64{0, 3}, 0, []impl.File{file("a", "onexyz"), b}}, {[]int64{0, 1, 3}, 1, []impl.File{file("a", "onexyz"), b}}, {[]int64{2}, 0, []impl.File{file("b", "one")}},
		{[]int64{4}, 2, []impl.File{a, file("b", "twoen")}}, {[]int64{2, 4}, 3, []impl.File{file("b", "oneend")}}, {[]int64{1, 4}, 1, []impl.File{a, file("b", "twoe"), file("c", "new")}},
		// What finds no file does nothing.
		{[]int64{3}, 0, []impl.File{a, b}}, {[]int64{3, 4}, 9, []impl.File{a, file("b", "twoend")}},
	} {
		checkLost(t, d, r.keep, r.torn, r.want...)
	}
	for n := range len(d.Ops) + 1 {
		keep := []int64{0, 1, 2, 3, 4}[:n]
		checkLost(t, d, keep, 3, with(onDisk(a, b), d.Ops[:n]...).Live...)
	}
	for _, keep := range [][]int64{{-1}, {5}, {6}, {0, 0}, {1, 0}, {0, 2, 1}, {4, 4}, {0, 5}, {-1, 0}, {0, 1, 2, 3, 4, 5}, {0, 1, 2, 3, 4, 4}, {4, 3, 2, 1, 0}, {math.MaxInt64}, {math.MinInt64}, {0, math.MaxInt64}, {1 << 32}} {
		checkNotLost(t, d, keep, 0)
		checkNotLost(t, d, keep, 3)
	}
	for _, keep := range [][]int64{nil, {0}, {2}, {0, 1, 2, 3, 4}, {9}} {
		for _, torn := range []int64{-1, -2, math.MinInt64} {
			checkNotLost(t, d, keep, torn)
		}
	}
	for _, keep := range [][]int64{{0}, {-1}, {1}} {
		checkNotLost(t, impl.Disk{}, keep, 0)
	}
	checkLost(t, impl.Disk{}, nil, 0)
	lone := with(onDisk(a), renameOp("a", "z"), renameOp("z", "a"), removeOp("a"))
	checkLost(t, lone, []int64{1}, 0, a)
	checkLost(t, lone, []int64{1, 2}, 0)
	checkLost(t, lone, []int64{0, 2}, 0, file("z", "one"))
}

func TestTooMuchIsLeft(t *testing.T) {
	big := filled("x", 100000)
	d := with(impl.Disk{}, appendOp("a", big), appendOp("a", big), removeOp("a"), appendOp("b", "y"), appendOp("c", ""), renameOp("b", "a"))
	checkLost(t, d, []int64{0, 1}, 100000, impl.File{Name: "a", Data: big + big})
	checkNotLost(t, d, []int64{0, 1, 3}, 1)
	checkLost(t, d, []int64{0, 1, 3}, 0, impl.File{Name: "a", Data: big + big}, impl.File{Name: "b"})
	checkNotLost(t, d, []int64{0, 1, 3, 4}, 0)
	// Only what there is at the end counts.
	checkLost(t, d, []int64{0, 1, 3, 5}, 0, impl.File{Name: "a", Data: "y"})
	checkLost(t, d, []int64{0, 1, 3, 4, 5}, 0, impl.File{Name: "a", Data: "y"}, impl.File{Name: "c"})
	full := with(onDisk(someFiles(60, 0)...), removeOp("f100"), appendOp("x", ""), removeOp("f101"), appendOp("y", ""), renameOp("x", "f102"))
	checkDisk(t, full, true)
	checkNotLost(t, full, []int64{1}, 0)
	checkNotLost(t, full, []int64{0, 1, 3}, 0)
	checkNotLost(t, full, []int64{1, 3, 4}, 0)
	checkLost(t, full, []int64{1, 4}, 0, someFiles(60, 0)...)
	checkLost(t, full, []int64{1, 2}, 0, append(slices.Delete(someFiles(60, 0), 1, 2), impl.File{Name: "x"})...)
}

func TestReplaceAtItsEdges(t *testing.T) {
	a, b, old := impl.File{Name: "a", Data: "one"}, impl.File{Name: "b", Data: "two"}, impl.File{Name: "a.new", Data: "left"}
	for _, d := range []impl.Disk{{}, onDisk(a), onDisk(b), onDisk(a, b), onDisk(old), onDisk(a, old), onDisk(a, old, b), with(onDisk(a, old), removeOp("a.new")), with(onDisk(a), appendOp("a.new", "x"))} {
		for _, data := range []string{"", "x", "one", filled("x", 1000)} {
			e := checkReplaced(t, d, "a", data, impl.DkOk)
			checkFile(t, e, "a", data)
			checkNoFile(t, e, "a.new")
			checkDisk(t, e, true)
			more := 2
			if _, there := mapOf(d.Live)["a.new"]; there {
				more = 3
			}
			if len(e.Ops) != len(d.Ops)+more || !slices.Equal(e.Safe, d.Safe) {
				t.Errorf("%s becomes %s", diskText(d), diskText(e))
			}
		}
	}
	for n, code := range map[int]int64{0: impl.DkForm, 1: impl.DkOk, 95: impl.DkOk, 96: impl.DkOk, 97: impl.DkForm, 100: impl.DkForm, 101: impl.DkForm, 1000: impl.DkForm} {
		for _, d := range []impl.Disk{{}, onDisk(a, b), onDisk(impl.File{Name: ".new", Data: "left"})} {
			checkReplaced(t, d, filled("n", n), "x", code)
			checkReplaced(t, d, filled("n", n), "", code)
		}
	}
	// Without a file the op ahead is none, so there are two and no three.
	many := func(d impl.Disk, n int) impl.Disk {
		return with(d, slices.Repeat([]impl.DOp{appendOp("b", "y")}, n)...)
	}
	for n, codes := range map[int][2]int64{197: {0, 0}, 198: {0, impl.DkFull}, 199: {impl.DkFull, impl.DkFull}, 200: {impl.DkFull, impl.DkFull}} {
		checkReplaced(t, many(onDisk(a), n), "a", "x", codes[0])
		checkReplaced(t, many(onDisk(a, old), n), "a", "x", codes[1])
	}
	checkReplaced(t, many(onDisk(a), 200), "", "x", impl.DkFull)
	checkReplaced(t, many(onDisk(a), 199), "", "x", impl.DkForm)
	checkReplaced(t, many(onDisk(a), 200), filled("n", 97), "x", impl.DkForm)
	// What was is still there while the other one is written.
	checkReplaced(t, onDisk(impl.File{Name: "a", Data: filled("x", 100000)}), "a", filled("y", 100000), impl.DkOk)
	checkReplaced(t, onDisk(impl.File{Name: "a", Data: filled("x", 100000)}), "a", filled("y", 100001), impl.DkFull)
	checkReplaced(t, onDisk(impl.File{Name: "a.new", Data: filled("x", 100000)}), "a", filled("y", 200000), impl.DkOk)
	checkReplaced(t, onDisk(impl.File{Name: "a.new", Data: filled("x", 100000)}), "a", filled("y", 200001), impl.DkFull)
	checkReplaced(t, onDisk(someFiles(59, 0)...), "f100", "x", impl.DkOk)
	checkReplaced(t, onDisk(someFiles(60, 0)...), "f100", "x", impl.DkFull)
	checkReplaced(t, onDisk(append(someFiles(59, 0), impl.File{Name: "f158.new"})...), "f158", "x", impl.DkOk)
	checkReplaced(t, onDisk(append(someFiles(59, 0), impl.File{Name: "f158.new"})...), "f157", "x", impl.DkFull)
}

// randomOp answers ops on few files, some of them none.
func randomOp(r *rand.Rand) impl.DOp {
	names := []string{"a", "b", "c", "log", "a.new"}
	name, other := names[r.IntN(len(names))], names[r.IntN(len(names))]
	switch r.IntN(12) {
	case 0:
		ops := wrongOps()
		return ops[r.IntN(len(ops))]
	case 1, 2:
		return removeOp(name)
	case 3, 4, 5:
		return renameOp(name, other)
	}
	return appendOp(name, randomBytes(r, r.Int64N(6)))
}

// randomKeep answers places that rise, and sometimes others.
func randomKeep(r *rand.Rand, n int) []int64 {
	var keep []int64
	for at := range n {
		if r.IntN(2) == 0 {
			keep = append(keep, int64(at))
		}
	}
	if r.IntN(10) == 0 {
		keep = append(keep, r.Int64N(int64(n)+3)-1)
	}
	return keep
}

func TestDisksOfManyOps(t *testing.T) {
	t.Parallel()
	r := rand.New(rand.NewPCG(71, 72))
	codes, crashes := [5]int{}, [2]int{}
	for range 300 {
		var d impl.Disk
		for range 40 {
			op := randomOp(r)
			_, code := done(d, op)
			codes[code]++
			d = checkDone(t, d, op, code)
			name := []string{"a", "b", "log"}[r.IntN(3)]
			_, code = replaced(d, name, "xy")
			e := checkReplaced(t, d, name, "xy", code)
			if r.IntN(12) == 0 {
				d = e
			}
			if r.IntN(10) == 0 {
				d = impl.Sync(d)
			}
			keep, torn := randomKeep(r, len(d.Ops)), r.Int64N(8)-1
			left, ok := lost(d, keep, torn)
			if !ok {
				crashes[0]++
				checkNotLost(t, d, keep, torn)
				continue
			}
			crashes[1]++
			checkLost(t, d, keep, torn, left.Live...)
			if r.IntN(20) == 0 {
				d = left
			}
		}
		checkDisk(t, d, true)
		checkLostAtTheEnds(t, d)
	}
	if codes[0] < 1000 || codes[2] < 500 || codes[3] < 500 || slices.Min(crashes[:]) < 500 {
		t.Errorf("codes %v, crashes %v", codes, crashes)
	}
}

// checkLostAtTheEnds asks for what is left with all ops kept, and with none.
func checkLostAtTheEnds(t *testing.T, d impl.Disk) {
	t.Helper()
	var all []int64
	for at := range d.Ops {
		all = append(all, int64(at))
	}
	checkLost(t, d, all, math.MaxInt64, d.Live...)
	checkLost(t, d, nil, math.MaxInt64, d.Safe...)
	kept, _ := impl.Crash(d, all, 200000)
	synced := impl.Sync(d)
	for _, f := range d.Live {
		checkFile(t, kept, f.Name, f.Data)
	}
	if !sameDisk(kept, synced) {
		t.Fatalf("%s is left as %s, and synced as %s", diskText(d), diskText(kept), diskText(synced))
	}
}

func TestPowerIsLostWithMostOps(t *testing.T) {
	r := rand.New(rand.NewPCG(73, 74))
	d := onDisk(someFiles(30, 1000)...)
	for i := range 200 {
		op := appendOp("f"+strconv.Itoa(100+i%60), randomBytes(r, 900))
		if i%9 == 8 {
			op = renameOp(op.Name, "f"+strconv.Itoa(100+i*7%60))
			if _, there := mapOf(d.Live)[op.Name]; !there {
				op = appendOp(op.Name, "")
			}
		}
		d = checkDone(t, d, op, impl.DkOk)
	}
	checkDone(t, d, appendOp("f100", ""), impl.DkFull)
	checkLostAtTheEnds(t, d)
	for range 20 {
		keep, torn := randomKeep(r, 200), r.Int64N(900)
		if left, ok := lost(d, keep, torn); ok {
			checkLost(t, d, keep, torn, left.Live...)
		}
	}
}

// diskTexts answers all texts of a disk.
func diskTexts(d impl.Disk) []string {
	var texts []string
	for _, f := range slices.Concat(d.Live, d.Safe) {
		texts = append(texts, f.Name, f.Data)
	}
	for _, op := range d.Ops {
		texts = append(texts, op.Name, op.To, op.Data)
	}
	return texts
}

// copied answers a disk with memory of its own, and lists that have room.
func copied(d impl.Disk) impl.Disk {
	var e impl.Disk
	for _, f := range d.Live {
		e.Live = append(e.Live, impl.File{Name: strings.Clone(f.Name), Data: strings.Clone(f.Data)})
	}
	for _, f := range d.Safe {
		e.Safe = append(e.Safe, impl.File{Name: strings.Clone(f.Name), Data: strings.Clone(f.Data)})
	}
	for _, op := range d.Ops {
		e.Ops = append(e.Ops, impl.DOp{Kind: op.Kind, Name: strings.Clone(op.Name), To: strings.Clone(op.To), Data: strings.Clone(op.Data)})
	}
	e.Live = append(e.Live, impl.File{Name: "kept"})[:len(e.Live)]
	e.Safe = append(e.Safe, impl.File{Name: "kept"})[:len(e.Safe)]
	e.Ops = append(e.Ops, impl.DOp{Name: "kept"})[:len(e.Ops)]
	return e
}

// checkDiskAlone asks whether what call answers is the same twice, is memory of
// its own, and leaves d as it was.
func checkDiskAlone(t *testing.T, d impl.Disk, call func(d impl.Disk) impl.Disk, given ...string) {
	t.Helper()
	arg := copied(d)
	one, two := call(arg), call(arg)
	if !sameDisk(one, two) || !sameDisk(arg, d) {
		t.Fatalf("%s becomes %s, then %s", diskText(d), diskText(one), diskText(two))
	}
	if arg.Live[:len(arg.Live)+1][len(arg.Live)].Name != "kept" || arg.Safe[:len(arg.Safe)+1][len(arg.Safe)].Name != "kept" || arg.Ops[:len(arg.Ops)+1][len(arg.Ops)].Name != "kept" {
		t.Fatalf("%s was written behind", diskText(arg))
	}
	checkNewTexts(t, diskTexts(one), append(given, diskTexts(arg)...))
	for _, e := range []impl.Disk{one, arg} {
		clear(e.Live)
		clear(e.Ops)
		clear(e.Safe)
	}
	if third := call(copied(d)); !sameDisk(third, two) {
		t.Fatalf("%s becomes %s, then %s", diskText(d), diskText(two), diskText(third))
	}
}

func TestDisksLeaveAlone(t *testing.T) {
	one, two := impl.File{Name: "first", Data: "data"}, impl.File{Name: "second", Data: "more"}
	old := impl.File{Name: "third.new", Data: "left over"}
	for _, d := range []impl.Disk{onDisk(one, two), onDisk(one, two, old), with(onDisk(one, two, old), appendOp("first", "tail"), renameOp("second", "other"), appendOp("second", "here again")), with(onDisk(one), removeOp("first"), appendOp("first", "another one"))} {
		name, other, data := strings.Clone("first"), strings.Clone("third"), strings.Clone("some data")
		for _, op := range []impl.DOp{appendOp(name, data), appendOp(other, data), renameOp(name, other), removeOp(name), renameOp(other, name), {Kind: 9, Name: name, To: other, Data: data}} {
			checkDiskAlone(t, d, func(d impl.Disk) impl.Disk { e, _ := impl.Do(d, op); return e }, name, other, data)
		}
		for _, name := range []string{name, other, strings.Clone(filled("n", 99))} {
			checkDiskAlone(t, d, func(d impl.Disk) impl.Disk { e, _ := impl.Replace(d, name, data); return e }, name, data)
		}
		checkDiskAlone(t, d, impl.Sync)
		keep := []int64{0, 1, 2, 77}
		for n := range len(d.Ops) + 1 {
			checkDiskAlone(t, d, func(d impl.Disk) impl.Disk { e, _ := impl.Crash(d, keep[:n], 3); return e })
		}
		if !slices.Equal(keep, []int64{0, 1, 2, 77}) {
			t.Errorf("places became %v", keep)
		}
		s, _ := impl.ReadFile(d, "first")
		again, _ := impl.ReadFile(d, "first")
		if s != again || !impl.DiskOk(d) || !impl.DiskOk(d) {
			t.Errorf("%s tells %q, then %q", diskText(d), s, again)
		}
		checkNewTexts(t, []string{s, again}, diskTexts(d))
	}
}
