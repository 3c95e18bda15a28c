package tests

import (
	"encoding/hex"
	"fmt"
	"math/rand/v2"
	"regexp"
	"runtime"
	"slices"
	"strings"
	"testing"

	"loop.example/g00774/impl"
)

const tooLong = "too long\n"

// formatWords are the names of the formats, that of the first one first.
var formatWords = []string{"rlp", "ssz", "scale", "proto", "bitcoin"}

// What lines look like, blanks put right: the tests' own reading of the table.
const (
	formatForm = ` (rlp|ssz|scale|proto|bitcoin)`
	digitsForm = ` (-|(?:[0-9a-f]{2})+)`
)

var (
	anyWord    = regexp.MustCompile(`[^ ]+`)
	schemaForm = regexp.MustCompile(`(?s)^schema(?: (.*))?$`)
	admitsForm = regexp.MustCompile(`^admits` + formatForm + `$`)
	encodeForm = regexp.MustCompile(`(?s)^encode` + formatForm + ` (.*)$`)
	decodeForm = regexp.MustCompile(`^decode` + formatForm + digitsForm + `$`)
	recodeForm = regexp.MustCompile(`^recode` + formatForm + formatForm + digitsForm + `$`)
)

// A teller is what a script has come to, as the tests read the document: the
// schema, and all commands so far.
type teller struct {
	sh   shape
	cmds []impl.Cmd
}

func digits(b string) string {
	if b == "" {
		return "-"
	}
	return hex.EncodeToString([]byte(b))
}

func bytesIn(t *testing.T, word string) string {
	t.Helper()
	b, err := hex.DecodeString(strings.TrimPrefix(word, "-"))
	if err != nil {
		t.Fatal(err)
	}
	return string(b)
}

func formatIn(word string) int64 {
	return int64(1 + slices.Index(formatWords, word))
}

func (x *teller) command(t *testing.T, line string) string {
	t.Helper()
	c := reset
	if name, ok := strings.CutPrefix(line, "to "); ok {
		c = to(formatIn(name))
	}
	if word, ok := strings.CutPrefix(line, "feed "); ok {
		c = feed(bytesIn(t, word))
	}
	_, answers := played(append(slices.Clone(x.cmds), c))
	answer := answers[len(answers)-1]
	if answer.Code != 0 {
		return fmt.Sprint("no ", answer.Code)
	}
	x.cmds = append(x.cmds, c)
	said := "ok"
	for _, out := range answer.Outs {
		if out.Code != 0 {
			said += fmt.Sprint(" !", out.Code)
			continue
		}
		said += " " + digits(out.Data)
	}
	return said
}

func (x *teller) schema(t *testing.T, text string) string {
	t.Helper()
	if _, ok := impl.ReadSchema(text); !ok {
		return "no"
	}
	x.sh = shapeOf(t, text)
	return "ok"
}

func (x *teller) zero() string {
	v := noughts(x.sh)
	if len(v) > 200 {
		return "none"
	}
	return textOf(v)
}

func (x *teller) encode(w wire, v []impl.Item) string {
	if !w.admits(x.sh) || !isValue(x.sh, v) {
		return "no 1"
	}
	b, _ := w.of(x.sh, v)
	return digits(string(b))
}

// decode answers what is said instead of a value, "" when there is one.
func (x *teller) decode(w wire, b string) ([]impl.Item, string) {
	if !w.admits(x.sh) {
		return nil, "no 1"
	}
	v, ok := w.dec(x.sh.schema(), b)
	if !ok {
		return nil, "no 3"
	}
	return v, ""
}

func (x *teller) recode(from, to wire, b string) string {
	if !to.admits(x.sh) {
		return "no 1"
	}
	v, said := x.decode(from, b)
	if said != "" {
		return said
	}
	return x.encode(to, v)
}

func (x *teller) state() string {
	r, _ := played(x.cmds)
	return fmt.Sprint(formatWords[r.To-1], " ", r.F.At, " ", len(r.F.Buf), " ", map[bool]string{true: "bad", false: "good"}[r.F.Bad])
}

func (x *teller) say(t *testing.T, line string) string {
	t.Helper()
	switch {
	case cmdForm.MatchString(line):
		return x.command(t, line)
	case line == "zero":
		return x.zero()
	case line == "state":
		return x.state()
	}
	if m := schemaForm.FindStringSubmatch(line); m != nil {
		return x.schema(t, m[1])
	}
	if m := admitsForm.FindStringSubmatch(line); m != nil {
		return map[bool]string{true: "yes", false: "no"}[wires[formatIn(m[1])-1].admits(x.sh)]
	}
	if m := encodeForm.FindStringSubmatch(line); m != nil {
		v, ok := impl.ReadValue(m[2])
		if !ok {
			return "no"
		}
		return x.encode(wires[formatIn(m[1])-1], v)
	}
	if m := decodeForm.FindStringSubmatch(line); m != nil {
		v, said := x.decode(wires[formatIn(m[1])-1], bytesIn(t, m[2]))
		return said + textOf(v)
	}
	if m := recodeForm.FindStringSubmatch(line); m != nil {
		return x.recode(wires[formatIn(m[1])-1], wires[formatIn(m[2])-1], bytesIn(t, m[3]))
	}
	return "what"
}

// saidOf is what a script says, as the tests read the document.
func saidOf(t *testing.T, text string) string {
	t.Helper()
	lines := strings.Split(text, "\n")
	if len(text) > 6000 || len(lines) > 61 || lines[len(lines)-1] != "" {
		return tooLong
	}
	x := teller{sh: shapeOf(t, "u64")}
	said := ""
	for _, line := range lines {
		if words := anyWord.FindAllString(line, -1); len(words) > 0 {
			said += x.say(t, strings.Join(words, " ")) + "\n"
		}
	}
	return said
}

func ended(lines []string) string {
	text := ""
	for _, line := range lines {
		text += line + "\n"
	}
	return text
}

func checkScript(t *testing.T, text, want string) {
	t.Helper()
	if said := impl.RunScript(text); said != want {
		t.Fatalf("%.7000q says %q, not %q", text, said, want)
	}
}

// checkRead asks for what the tests' own reading tells, and answers that.
func checkRead(t *testing.T, text string) string {
	t.Helper()
	want := saidOf(t, text)
	checkScript(t, text, want)
	return want
}

// checkSays asks for what each line of a script says, line and said by turns, ""
// being nothing: of all of it, of the script cut at every line's end, and of the
// tests' own reading.
func checkSays(t *testing.T, turns ...string) {
	t.Helper()
	text, want := "", ""
	checkScript(t, text, want)
	for turn := range slices.Chunk(turns, 2) {
		text += turn[0] + "\n"
		if turn[1] != "" {
			want += turn[1] + "\n"
		}
		checkScript(t, text, want)
	}
	if own := saidOf(t, text); own != want {
		t.Fatalf("%q is read as %q, not %q", text, own, want)
	}
}

// checkEach asks for lines that say all the same and change nothing, each by
// itself and between others.
func checkEach(t *testing.T, said string, lines ...string) {
	t.Helper()
	for _, line := range lines {
		checkSays(t, line, said)
		checkSays(t, "to ssz", "ok", "feed 0101", "ok", line, said, "state", "ssz 0 2 good", line, said, "zero", "0", "encode rlp 300", "82012c")
		checkScript(t, line, tooLong)
	}
	for part := range slices.Chunk(lines, 60) {
		checkScript(t, ended(part), strings.Repeat(said+"\n", len(part)))
	}
}

// Frames of a set of validators of epoch 0 without any, as SSZ and as RLP, and one
// with data of no value.
const (
	sszFrame   = "0203080000000008000000"
	rlpFrame   = "010303c280c0"
	wrongFrame = "0203017a"
)

func TestScriptsOfNoWords(t *testing.T) {
	checkScript(t, "", "")
	checkSays(t, "", "")
	checkSays(t, " ", "", "", "", "      ", "")
	checkSays(t, "", "", "zero", "0", "  ", "", "state", "rlp 0 0 good", "", "")
}

func TestCommandsOfScripts(t *testing.T) {
	checkSays(t, "to ssz", "ok", "state", "ssz 0 0 good", "to scale", "ok", "state", "scale 0 0 good", "to proto", "ok", "state", "proto 0 0 good", "to bitcoin", "ok", "to bitcoin", "ok", "state", "bitcoin 0 0 good", "to rlp", "ok", "state", "rlp 0 0 good")
	checkSays(t, "feed -", "ok", "reset", "ok", "state", "rlp 0 0 good",
		"feed "+sszFrame, "ok "+rlpFrame, "state", "rlp 11 0 good",
		"feed "+sszFrame[:6], "ok", "state", "rlp 11 3 good", "feed -", "ok", "to ssz", "ok", "state", "ssz 11 3 good",
		// Several are told at once, one of them with another code than RlOk.
		"feed "+sszFrame[6:]+wrongFrame+rlpFrame+wrongFrame[:2], "ok "+sszFrame+" !1 "+sszFrame, "state", "ssz 32 1 good",
		"reset", "ok", "state", "ssz 32 0 good", "feed "+wrongFrame+wrongFrame, "ok !1 !1", "state", "ssz 40 0 good",
		// What comes in one chunk with bytes that are no frame is told all the same.
		"feed "+rlpFrame+"00", "ok "+sszFrame, "state", "ssz 46 0 bad",
		"feed -", "no 2", "feed 00", "no 2", "feed "+rlpFrame, "no 2", "feed 0", "what", "state", "ssz 46 0 bad",
		"to proto", "ok", "feed 01", "no 2", "state", "proto 46 0 bad",
		"reset", "ok", "state", "proto 46 0 good", "feed "+rlpFrame, "ok 040300", "state", "proto 52 0 good")
}

func TestLongestFeedOfScripts(t *testing.T) {
	most := strings.Repeat(wrongFrame, 100)
	checkSays(t, "feed "+most, "ok"+strings.Repeat(" !1", 100), "feed "+most+"02", "what", "state", "rlp 400 0 good", "feed 00", "ok", "feed "+most+"02", "what", "feed "+most, "no 2", "state", "rlp 400 0 bad", "reset", "ok", "feed "+most, "ok"+strings.Repeat(" !1", 100), "state", "rlp 800 0 good")
}

// What the commands of a script say is what a play of them tells.
func TestScriptsOfManyCommands(t *testing.T) {
	t.Parallel()
	r := rand.New(rand.NewPCG(71, 72))
	outs := 0
	for range 100 {
		b, list, text := streamOf(randomPieces(t, r, 4)), []impl.Cmd{}, ""
		for b != "" && len(text) < 5000 {
			n := min(len(b), 1+r.IntN(400))
			list, b = append(list, to(1+r.Int64N(5)), feed(b[:n])), b[n:]
			text = textOfCmds(list)
		}
		if text = textOfCmds(list); len(text) > 5980 || len(list) > 59 {
			continue
		}
		relay, answers := impl.Play(list)
		said := strings.Split(checkRead(t, text+"state\n"), "\n")
		for i, answer := range answers {
			want := "ok"
			for _, out := range answer.Outs {
				want += " " + map[bool]string{true: digits(out.Data), false: fmt.Sprint("!", out.Code)}[out.Code == 0]
				outs++
			}
			if said[i] != want {
				t.Fatalf("%q says %q, not %q", text, said[i], want)
			}
		}
		if want := fmt.Sprint(formatWords[relay.To-1], " ", relay.F.At, " ", len(relay.F.Buf), " good"); said[len(list)] != want {
			t.Fatalf("%q says %q at the end, not %q", text, said[len(list)], want)
		}
	}
	if outs < 100 {
		t.Errorf("%d were told", outs)
	}
}

func textOfCmds(list []impl.Cmd) string {
	var lines []string
	for _, c := range list {
		lines = append(lines, impl.CmdText(c))
	}
	return ended(lines)
}

func TestSchemasOfScripts(t *testing.T) {
	checkSays(t, "encode ssz 300", "2c01000000000000", "schema u8", "ok", "zero", "0", "encode ssz 300", "no 1", "encode ssz 255", "ff",
		"schema u7", "no", "encode ssz 255", "ff", "schema", "no", "encode ssz 255", "ff", "schema bool", "ok", "zero", "f", "encode ssz 255", "no 1", "encode ssz t", "01",
		"schema struct2 u8", "no", "schema u8 u8", "no", "schema bool u8", "no", "schema -", "no", "schema Bool", "no", "schema schema u8", "no", "schema zero", "no", "zero", "f",
		"schema struct2 u8 list3 option bytes5", "ok", "zero", "s2 0 l0", "encode ssz s2 7 l2 none some b:6162", "0705000000"+"0800000009000000"+"00"+"016162",
		"schema u8 ", "ok", "zero", "0", "schema option u8", "ok", "zero", "none", "schema u64", "ok", "encode ssz 300", "2c01000000000000")
	// The relay has no part in it.
	checkSays(t, "feed "+sszFrame+"02", "ok "+rlpFrame, "state", "rlp 11 1 good", "schema union2 bytes3 u8", "ok", "state", "rlp 11 1 good", "to ssz", "ok", "zero", "c0 b:", "schema x", "no", "state", "ssz 11 1 good", "reset", "ok", "zero", "c0 b:", "feed 00", "ok", "schema vector2 fixed3", "ok", "zero", "v2 x:000000 x:000000", "state", "ssz 11 0 bad")
	// As many types as a schema may have, and as deep as one may lie, and one more.
	five := strings.Repeat(" struct6"+strings.Repeat(" u8", 6), 5)
	zero := strings.Repeat(" s6"+strings.Repeat(" 0", 6), 5)
	checkSays(t, "schema struct6"+five+" struct3 u8 u8 u8", "ok", "zero", "s6"+zero+" s3 0 0 0", "schema struct6"+five+" struct4 u8 u8 u8 u8", "no", "zero", "s6"+zero+" s3 0 0 0")
	checkSays(t, "schema option option option option option option u8", "ok", "schema option option option option option option option u8", "no", "encode ssz some some some some some some 5", "01010101010105")
}

func TestZeroWhereThereIsNone(t *testing.T) {
	checkSays(t, "schema vector8 vector8 vector8 u8", "ok", "zero", "none", "admits ssz", "yes", "state", "rlp 0 0 good", "schema vector8 vector4 vector4 u8", "ok", "zero", "v8"+strings.Repeat(" v4"+strings.Repeat(" v4 0 0 0 0", 4), 8))
	// 200 Items, and one more.
	many := "vector8 vector8 bool vector7 vector8 vector1 u8"
	noughts := "v8" + strings.Repeat(" v8"+strings.Repeat(" f", 8), 8) + " v7" + strings.Repeat(" v8"+strings.Repeat(" v1 0", 8), 7)
	checkSays(t, "schema struct3 "+many+" vector5 u8", "ok", "zero", "s3 "+noughts+" v5 0 0 0 0 0", "schema struct3 "+many+" vector6 u8", "ok", "zero", "none", "schema struct2 "+many, "ok", "zero", "s2 "+noughts)
}

func TestDecodeWhereThereIsNone(t *testing.T) {
	checkSays(t, "decode rlp 00", "no 3", "decode rlp 0505", "no 3", "decode rlp -", "no 3", "decode ssz 05", "no 3", "decode ssz -", "no 3", "decode scale 05", "no 3", "decode bitcoin 05", "no 3", "decode proto 05", "no 1", "decode proto -", "no 1",
		"decode rlp 05", "5", "decode rlp 80", "0", "decode ssz 0500000000000000", "5", "decode scale ffffffffffffffff", "18446744073709551615", "decode bitcoin 0000000000000080", "9223372036854775808")
	// A value may not have more Items than MaxItems.
	checkSays(t, "schema vector8 vector8 vector8 u8", "ok", "decode ssz "+strings.Repeat("00", 512), "no 3", "decode scale "+strings.Repeat("00", 512), "no 3", "recode ssz scale "+strings.Repeat("00", 512), "no 3", "schema vector4 vector8 vector4 u8", "ok", "decode ssz "+strings.Repeat("07", 128), "v4"+strings.Repeat(" v8"+strings.Repeat(" v4 7 7 7 7", 8), 4))
}

// eachBytes are the bytes of one value in all formats.
var eachBytes = map[string]string{"rlp": "c6820102826162", "ssz": "0201060000006162", "scale": "0201086162", "proto": "08820212026162", "bitcoin": "0201026162"}

func TestEachFormatOfScripts(t *testing.T) {
	for from, b := range eachBytes {
		set := []string{"schema struct2 u16 bytes9", "ok"}
		checkSays(t, append(set, "admits "+from, "yes", "encode "+from+" s2 258 b:6162", b, "decode "+from+" "+b, "s2 258 b:6162", "decode "+from+" "+b[:2], "no 3", "decode "+from+" ff", "no 3", "encode "+from+" s2 65536 b:6162", "no 1", "encode "+from+" s2 258 f", "no 1", "encode "+from+" s2 258 b:616", "no", "state", "rlp 0 0 good")...)
		for to, other := range eachBytes {
			checkSays(t, append(set, "recode "+from+" "+to+" "+b, other, "recode "+from+" "+to+" "+b[:2], "no 3", "recode "+from+" "+to+" ff", "no 3")...)
		}
	}
	// Formats that have no values of a schema tell so ahead of all that is wrong
	// with the value, or with the bytes.
	checkSays(t, "admits rlp", "yes", "admits ssz", "yes", "admits scale", "yes", "admits proto", "no", "admits bitcoin", "yes", "encode proto 5", "no 1", "encode proto t", "no 1", "decode proto 05", "no 1", "recode proto rlp 05", "no 1", "recode rlp proto 05", "no 1", "recode rlp proto ff", "no 1", "recode proto proto -", "no 1",
		"schema struct1 option u8", "ok", "admits proto", "yes", "admits bitcoin", "no", "admits rlp", "yes", "encode bitcoin s1 none", "no 1", "decode bitcoin 00", "no 1", "recode rlp bitcoin c1c0", "no 1", "recode bitcoin rlp 00", "no 1", "recode rlp bitcoin ff", "no 1",
		"schema option option u8", "ok", "admits ssz", "yes", "admits proto", "no", "admits bitcoin", "no", "recode proto bitcoin -", "no 1")
}

// No bytes are said, and read, as -.
func TestNoBytesInScripts(t *testing.T) {
	checkSays(t, "schema struct2 u8 option bool", "ok", "encode proto s2 0 none", "-", "decode proto -", "s2 0 none", "recode proto ssz -", "000500000000", "recode ssz proto 000500000000", "-", "recode proto proto -", "-", "recode proto rlp -", "c280c0", "decode ssz -", "no 3", "recode ssz proto -", "no 3", "encode proto -", "no",
		"schema bytes3", "ok", "encode ssz b:", "-", "decode ssz -", "b:", "recode ssz rlp -", "80", "recode rlp ssz 80", "-", "recode rlp scale 80", "00", "decode rlp -", "no 3", "encode ssz x:", "no 1", "feed -", "ok")
}

func TestNamesOfNoFormat(t *testing.T) {
	for _, name := range []string{"xml", "RLP", "Rlp", "rlP", "rl", "rlpx", "xrlp", "ssz2", "proto3", "scal", "bitcoins", "0", "1", "2", "6", "-", "rlp,ssz", "rlp\t", "\x00", "f", "u64"} {
		checkEach(t, "what", "to "+name, "admits "+name, "encode "+name+" 5", "encode "+name+" x", "encode "+name, "decode "+name+" 05", "decode "+name+" 0", "decode "+name, "recode "+name+" rlp 05", "recode rlp "+name+" 05", "recode "+name+" "+name+" 05", "recode rlp "+name+" 0", "recode rlp "+name)
	}
}

func TestBytesThatAreNone(t *testing.T) {
	for _, word := range []string{"", "0", "000", "00f", "zz", "0g", "g0", "AB", "aB", "Ab", "0A", "A0", "0F", "--", "---", "00-", "-00", "0-", "-0", "- -", "- 00", "00 -", "00 00", "0x00", "+1", "05\t", "\x00\x00", "rlp", "0/", "0:", "0`", "0\x00", "b:05", "é"} {
		checkEach(t, "what", "feed "+word, "decode rlp "+word, "decode proto "+word, "recode rlp ssz "+word, "recode rlp proto "+word)
	}
	// The bytes within a value are not a word by themselves.
	checkEach(t, "no", "encode rlp b:0", "encode rlp b:AB", "encode rlp x:0G", "encode proto b:-")
}

func TestWordsTooFewOrTooMany(t *testing.T) {
	checkEach(t, "what", "to", "to rlp ssz", "to rlp rlp", "to rlp -", "feed", "feed 00 00", "feed - -", "feed 00 x", "reset 0", "reset reset", "reset -", "admits", "admits rlp ssz", "admits rlp rlp", "admits rlp u64", "zero 0", "zero zero", "zero u64", "encode", "encode rlp", "encode proto", "decode", "decode rlp", "decode rlp 05 05", "decode rlp 05 x", "decode rlp ssz 05", "recode", "recode rlp", "recode rlp ssz", "recode rlp 05", "recode rlp ssz 05 05", "recode rlp ssz scale 05", "state 1", "state state", "state -")
	checkEach(t, "no", "schema", "schema u64 u64", "schema u64 x", "schema option", "encode rlp 5 x", "encode rlp x", "encode rlp -", "encode rlp 05", "encode rlp +5", "encode rlp -5", "encode rlp 18446744073709551616", "encode rlp rlp 5")
	checkEach(t, "no 1", "encode rlp 5 5", "encode rlp t", "encode rlp s1 5", "encode rlp none", "encode proto 5 5")
}

func TestWordsOfNoLine(t *testing.T) {
	checkEach(t, "what", "fly", "what", "ok", "no", "yes", "none", "rlp", "5", "05", "-", "u64", "tos rlp", "t rlp", "torlp", "too", "feeds 00", "fee 00", "feed00", "feed-", "resets", "reset0", "rese", "schemas u64", "schemau64", "schem u64", "admitsrlp", "admit rlp", "admits_ rlp", "zeros", "zero0", "zer", "encodes rlp 5", "encoderlp 5", "encod rlp 5", "decodes rlp 05", "decoderlp 05", "decod rlp 05", "recodes rlp ssz 05", "recoderlp ssz 05", "recod rlp ssz 05", "states", "stat", "sstate", "rlp admits", "u64 schema", "5 encode rlp",
		"To rlp", "TO rlp", "tO rlp", "to RLP", "Feed 00", "FEED 00", "Reset", "RESET", "reseT", "Schema u64", "SCHEMA u64", "Admits rlp", "ADMITS rlp", "Zero", "ZERO", "zerO", "Encode rlp 5", "ENCODE rlp 5", "Decode rlp 05", "DECODE rlp 05", "Recode rlp ssz 05", "RECODE rlp ssz 05", "State", "STATE")
}

func TestBlanksInScripts(t *testing.T) {
	checkSays(t, "  zero", "0", "zero  ", "0", "   zero   ", "0", " state ", "rlp 0 0 good", "to   ssz", "ok", "  to  scale  ", "ok", " feed    0101 ", "ok", "state", "scale 0 2 good", "reset ", "ok", "  reset", "ok", "   schema    struct2   u8  option    bool  ", "ok", " zero", "s2 0 none", "  admits   proto ", "yes", " encode   rlp   s2   0    some  t  ", "c380c101", "  decode   rlp   c380c101  ", "s2 0 some t", " recode  rlp   ssz    c380c101 ", "0005000000"+"0101", "schema   ", "no", "  schema", "no", "  encode  rlp  ", "what", "  admits  ", "what", " decode   rlp  ", "what", "st ate", "what", "s tate", "what", "feed 00  00", "what")
}

// Blanks alone part words; what else is no printing byte is a part of one.
func TestOtherBytesInScripts(t *testing.T) {
	others := []string{"\t", "\r", "\v", "\f", "\x00", "\x1f", "\x7f", "\x80", "\xa0", "\xff", "\u0085", "\u00a0", "\u2003", "\u3000", "\ufeff", "\xe2\x80", "!", "é"}
	for _, other := range others {
		checkEach(t, "what", other, other+other, " "+other+" ", other+"state", "state"+other, "st"+other+"ate", "state "+other, "state"+other+" ", "to"+other+"rlp", "to rlp"+other, "to "+other+"rlp", "feed 00"+other, "feed"+other+"00", "reset"+other, "schema"+other+"u64", "admits rlp"+other, "admits"+other+"rlp", "zero"+other, other+"zero", "encode rlp"+other+"5", "decode rlp"+other+"05", "decode rlp 05"+other, "recode rlp ssz 05"+other, "recode rlp"+other+"ssz 05")
		checkEach(t, "no", "schema u64"+other, "schema "+other+"u64", "schema u64 "+other, "schema option"+other+"u64", "encode rlp 5"+other, "encode rlp "+other+"5", "encode rlp s1"+other+"5")
	}
	for n := range 256 {
		b := string([]byte{byte(n)})
		if b == "\n" {
			continue
		}
		text := ended([]string{b, "state" + b, b + "state", "sta" + b + "te", "schema u" + b, "schema option" + b + "u8", "admits" + b + "rlp", "encode rlp " + b, "encode rlp 5" + b, "encode ssz" + b + "5", "decode rlp 0" + b, "decode rlp " + b, "decode" + b + "rlp 05", "recode ssz rlp 0" + b + "00000000000000", "feed 0" + b, "feed" + b + "01", "to" + b + "ssz", "state"})
		checkRead(t, text)
	}
}

// A line feed alone ends a line: a script cut elsewhere is none.
func TestScriptsThatAreNotEnded(t *testing.T) {
	for _, text := range []string{"state", " ", "  ", "x", "\t", "\r", "\x00", "state\r", "state\nstate", "state\n ", "state\n\n ", "\n ", "\nx", "state\n\r", "\n\x00", "what", "state\r\nstate"} {
		checkScript(t, text, tooLong)
		checkRead(t, text+"\n")
	}
	text := ended([]string{"to ssz", "feed 01", "", "schema u8", " ", "zero", "state"})
	for at := range len(text) + 1 {
		said := checkRead(t, text[:at])
		if is := said == tooLong; is != (at > 0 && text[at-1] != '\n') {
			t.Errorf("%q says %q", text[:at], said)
		}
	}
}

func TestMostLinesOfScripts(t *testing.T) {
	for _, row := range [][2]string{{"", ""}, {"  ", ""}, {"zero", "0\n"}, {"what", "what\n"}, {"reset", "ok\n"}, {"feed -", "ok\n"}, {"schema u8", "ok\n"}} {
		for _, n := range []int{1, 2, 58, 59, 60} {
			lines := slices.Repeat([]string{row[0]}, n)
			checkScript(t, ended(lines), strings.Repeat(row[1], n))
			checkScript(t, ended(lines)+" ", tooLong)
			checkScript(t, ended(lines)+"zero", tooLong)
		}
		for _, n := range []int{61, 62, 120, 256 + 60, 599} {
			checkScript(t, ended(slices.Repeat([]string{row[0]}, n)), tooLong)
		}
	}
	// Lines that say nothing count, too, wherever they stand.
	for silent := range 61 {
		lines := append(slices.Repeat([]string{""}, silent), slices.Repeat([]string{"zero"}, 60-silent)...)
		checkScript(t, ended(lines), strings.Repeat("0\n", 60-silent))
		checkScript(t, ended(append(lines, "")), tooLong)
		checkScript(t, ended(append([]string{" "}, lines...)), tooLong)
	}
}

func TestMostBytesOfScripts(t *testing.T) {
	for _, row := range []struct {
		tail, said string
	}{{"zero\n", "0\n"}, {"\n", ""}, {"x\n", "what\n"}, {"\nstate\n\n", "rlp 0 0 good\n"}} {
		for _, n := range []int{5998, 5999, 6000} {
			checkScript(t, filled(" ", n-len(row.tail))+row.tail, row.said)
		}
		for _, n := range []int{6001, 6002, 12000, 65536 + 100, 1000000} {
			checkScript(t, filled(" ", n-len(row.tail))+row.tail, tooLong)
			checkScript(t, filled("x", n-len(row.tail))+row.tail, tooLong)
		}
	}
	for _, n := range []int{1, 2, 5999, 6000, 6001, 1000000} {
		checkScript(t, filled(" ", n), tooLong)
		checkScript(t, filled("x", n), tooLong)
	}
	checkScript(t, filled("x", 5999)+"\n", "what\n")
	checkScript(t, filled("x ", 2999)+"x\n", "what\n")
	checkScript(t, filled("\n", 6000), tooLong)
	// Both at once: MaxScript lines of MaxText bytes in all.
	lines := slices.Repeat([]string{filled(" ", 95) + "zero"}, 60)
	checkScript(t, ended(lines), strings.Repeat("0\n", 60))
	lines[30] += " "
	checkScript(t, ended(lines), tooLong)
	lines[30] = lines[30][2:]
	checkScript(t, ended(lines), strings.Repeat("0\n", 60))
	checkScript(t, ended(append(lines, "")), tooLong)
}

func TestLongestWordsOfScripts(t *testing.T) {
	part := strings.Repeat("7a", 200)
	checkSays(t, "schema list20 bytes200", "ok", "encode scale l14"+strings.Repeat(" b:"+part, 14), "38"+strings.Repeat("2103"+part, 14))
	checkSays(t, "schema list20 bytes200", "ok", "decode scale 38"+strings.Repeat("2103"+part, 14), "l14"+strings.Repeat(" b:"+part, 14))
	checkSays(t, "schema list20 bytes200", "ok", "recode bitcoin rlp 0e"+strings.Repeat("c8"+part, 14), "f90b0c"+strings.Repeat("b8c8"+part, 14))
	checkSays(t, "schema bytes200", "ok", "encode ssz b:"+part, part, "encode ssz b:"+part+"7a", "no 1", "decode ssz "+part, "b:"+part, "decode ssz "+part+"7a", "no 3")
	// 200 Items, and one more, which are no value's text.
	checkSays(t, "schema list20 list20 u8", "ok", "encode ssz l10"+strings.Repeat(" l18"+strings.Repeat(" 7", 18), 9)+" l18"+strings.Repeat(" 7", 17), "no 1", "encode scale l10"+strings.Repeat(" l18"+strings.Repeat(" 7", 18), 10), "28"+strings.Repeat("48"+strings.Repeat("07", 18), 10), "encode scale l10"+strings.Repeat(" l19"+strings.Repeat(" 7", 19), 9)+" l18"+strings.Repeat(" 7", 18), "28"+strings.Repeat("4c"+strings.Repeat("07", 19), 9)+"48"+strings.Repeat("07", 18), "encode scale l10"+strings.Repeat(" l19"+strings.Repeat(" 7", 19), 10), "no", "encode scale"+strings.Repeat(" 7", 200), "no 1", "encode scale"+strings.Repeat(" 7", 201), "no")
}

// asking are lines that change nothing, whatever stands ahead of them.
var asking = []string{"state", "zero", "admits rlp", "admits proto", "admits bitcoin", "encode rlp 5", "encode ssz s2 0 none", "encode scale x", "decode rlp 05", "decode ssz -", "decode proto -", "recode rlp ssz c280c0", "recode ssz proto -", "what is this", "schema", "schema u7", "to xml", "to", "feed", "feed 0", "feed AB", "reset reset", "admits", "encode rlp", "state state", "\t"}

// A liner makes lines that fit, more or less, what stands ahead of them.
type liner struct {
	r      *rand.Rand
	sh     shape
	stream string
}

func (x *liner) name() string {
	return formatWords[x.r.IntN(5)]
}

// bytes answers bytes of a value in a format, or of none.
func (x *liner) bytes(format int64) string {
	w, v := wires[format-1], randomValue(x.r, x.sh)
	if !w.admits(x.sh) || x.r.IntN(8) == 0 {
		return randomBytes(x.r, x.r.Int64N(9))
	}
	b, _ := w.of(x.sh, v)
	if x.r.IntN(6) == 0 {
		b = spoilBytes(x.r, b)
	}
	return string(b)
}

func (x *liner) value() string {
	v := randomValue(x.r, x.sh)
	if other := spoil(x.r, v); x.r.IntN(6) == 0 && impl.ValueText(other) != "" {
		v = other
	}
	return textOf(v)
}

func (x *liner) right(t *testing.T) string {
	t.Helper()
	format := 1 + x.r.Int64N(5)
	switch x.r.IntN(10) {
	case 0, 1:
		x.sh = randomEvery(x.r, x.r.IntN(3))
		return "schema " + impl.SchemaText(x.sh.schema())
	case 2:
		return "encode " + x.name() + " " + x.value()
	case 3:
		return "decode " + formatWords[format-1] + " " + digits(x.bytes(format))
	case 4:
		return "recode " + formatWords[format-1] + " " + x.name() + " " + digits(x.bytes(format))
	case 5:
		return "admits " + x.name()
	case 6:
		return []string{"state", "zero", ""}[x.r.IntN(3)]
	}
	return cmdText(randomCmd(t, x.r, &x.stream))
}

// line answers a line, blanks put anywhere, and at times one that is spoilt.
func (x *liner) line(t *testing.T) string {
	t.Helper()
	line := x.right(t)
	at := x.r.IntN(len(line) + 1)
	switch x.r.IntN(20) {
	case 0:
		return line[:at] + []string{"0", "x", "-", " ", "\t", "\r", "\xff", "A", " 5", " rlp"}[x.r.IntN(10)] + line[at:]
	case 1:
		return line[:at]
	case 2:
		return line + " " + x.right(t)
	case 3:
		return strings.ToUpper(line[:at]) + line[at:]
	case 4, 5, 6:
		return " " + strings.ReplaceAll(line, " ", filled(" ", 1+x.r.IntN(3))) + filled(" ", x.r.IntN(3))
	}
	return line
}

// lines answers so many lines at most, with which a script has not too many bytes.
func (x *liner) lines(t *testing.T, most int) []string {
	t.Helper()
	var list []string
	size := 0
	for range most * 3 {
		line := x.line(t)
		if len(line) > 900 || size+len(line)+1 > 5000 || len(list) == most {
			continue
		}
		list = append(list, line)
		size += len(line) + 1
	}
	return list
}

func eachScript(t *testing.T, n int, most int, do func(r *rand.Rand, lines []string)) {
	t.Helper()
	r := rand.New(rand.NewPCG(73, uint64(n)))
	for range n {
		x := liner{r: r, sh: shape{typ: impl.Typ{Kind: impl.TyUint, N: 64}}}
		do(r, x.lines(t, 1+r.IntN(most)))
	}
}

func TestScriptsOfManyLines(t *testing.T) {
	t.Parallel()
	told := map[string]int{}
	eachScript(t, 1500, 59, func(r *rand.Rand, lines []string) {
		for _, said := range strings.Split(checkRead(t, ended(lines)), "\n") {
			first, _, more := strings.Cut(said, " ")
			if first == "no" {
				first = said
			}
			if more && first == "ok" {
				first = "ok and more"
			}
			told[first]++
		}
	})
	for _, said := range []string{"what", "no", "no 1", "no 2", "no 3", "ok", "ok and more", "yes", "none", "0", "-"} {
		if told[said] < 10 {
			t.Errorf("%q was told %d times", said, told[said])
		}
	}
}

// What a script said stays said when more lines stand behind it.
func TestWhatWasSaidStaysSaid(t *testing.T) {
	t.Parallel()
	eachScript(t, 200, 60, func(r *rand.Rand, lines []string) {
		all := impl.RunScript(ended(lines))
		ahead := ""
		for n := range len(lines) + 1 {
			said := impl.RunScript(ended(lines[:n]))
			more, ok := strings.CutPrefix(said, ahead)
			if !ok || !strings.HasPrefix(all, said) || strings.Count(more, "\n") > 1 {
				t.Fatalf("%q says %q, with fewer lines %q, with more %q", lines[:n], said, ahead, all)
			}
			silent := n == 0 || strings.Trim(lines[n-1], " ") == ""
			if silent != (more == "") {
				t.Fatalf("%q says %q", lines[:n], more)
			}
			ahead = said
		}
		if ahead != all {
			t.Fatalf("%q says %q, then %q", lines, ahead, all)
		}
	})
}

// saidLines answers what a script says, line by line.
func saidLines(t *testing.T, lines []string) []string {
	t.Helper()
	said := impl.RunScript(ended(lines))
	if said == tooLong {
		t.Fatalf("%q has too many lines or bytes", lines)
	}
	list := strings.SplitAfter(said, "\n")
	return list[:len(list)-1]
}

func TestLinesThatAskChangeNothing(t *testing.T) {
	t.Parallel()
	eachScript(t, 60, 20, func(r *rand.Rand, lines []string) {
		want := saidLines(t, lines)
		for at := range len(lines) + 1 {
			ahead := len(saidLines(t, lines[:at]))
			for _, ask := range asking {
				said := saidLines(t, slices.Insert(slices.Clone(lines), at, ask))
				alone := saidLines(t, append(slices.Clone(lines[:at]), ask))
				if len(said) != len(want)+1 || said[ahead] != alone[ahead] || !slices.Equal(slices.Delete(slices.Clone(said), ahead, ahead+1), want) {
					t.Fatalf("%q, with %q at %d, says %q, without it %q", lines, ask, at, said, want)
				}
			}
		}
	})
}

// The same lines with lines that ask ahead of each of them, and behind the last.
func TestLinesThatAskEverywhere(t *testing.T) {
	t.Parallel()
	eachScript(t, 100, 29, func(r *rand.Rand, lines []string) {
		want := saidLines(t, lines)
		for _, ask := range asking {
			with, left := []string{ask}, []string{}
			for _, line := range lines {
				with = append(with, line, ask)
			}
			said := saidLines(t, with)
			for i, line := range with {
				switch {
				case i%2 == 0:
					said = said[1:]
				case strings.Trim(line, " ") != "":
					left, said = append(left, said[0]), said[1:]
				}
			}
			if len(said) != 0 || !slices.Equal(left, want) {
				t.Fatalf("%q, with %q everywhere, says %q, without it %q", lines, ask, left, want)
			}
		}
	})
}

func TestStateAroundLinesThatAsk(t *testing.T) {
	for _, ask := range asking {
		if ask == "state" {
			continue
		}
		said := func(lines ...string) string { return impl.RunScript(ended(lines)) }
		one := strings.TrimPrefix(said("schema struct2 u8 option bool", ask), "ok\n")
		checkScript(t, ended([]string{"state", ask, "state"}), "rlp 0 0 good\n"+said(ask)+"rlp 0 0 good\n")
		checkScript(t, ended([]string{"schema struct2 u8 option bool", "state", ask, "state", "zero"}), "ok\nrlp 0 0 good\n"+one+"rlp 0 0 good\ns2 0 none\n")
		checkScript(t, ended([]string{"schema struct2 u8 option bool", "to ssz", "feed " + rlpFrame + "0101", "state", ask, "state", "zero"}), "ok\nok\nok "+sszFrame+"\nssz 6 2 good\n"+one+"ssz 6 2 good\ns2 0 none\n")
		checkScript(t, ended([]string{"schema struct2 u8 option bool", "feed " + rlpFrame + "00", "state", ask, "state", "feed 01", "zero"}), "ok\nok "+rlpFrame+"\nrlp 6 0 bad\n"+one+"rlp 6 0 bad\nno 2\ns2 0 none\n")
		checkScript(t, ended([]string{"to ssz", "state", ask, "schema u8", ask, "state"}), "ok\nssz 0 0 good\n"+said(ask)+"ok\n"+strings.TrimPrefix(said("schema u8", ask), "ok\n")+"ssz 0 0 good\n")
	}
}

func TestScriptsLeaveAlone(t *testing.T) {
	var texts, all []string
	eachScript(t, 200, 30, func(r *rand.Rand, lines []string) {
		text := strings.Clone(ended(lines))
		before := strings.Clone(text)
		one, two := impl.RunScript(text), impl.RunScript(text)
		if one != two || text != before {
			t.Fatalf("%q says %q, then %q", before, one, two)
		}
		checkNewTexts(t, []string{one, two}, []string{text})
		texts, all = append(texts, text), append(all, one)
	})
	// Two scripts one behind the other: the second one goes on with nothing of the
	// first one, neither does the first one, run again.
	for i := range texts[1:] {
		a, b := texts[i], texts[i+1]
		if said := []string{impl.RunScript(a), impl.RunScript(b), impl.RunScript(a)}; !slices.Equal(said, []string{all[i], all[i+1], all[i]}) {
			t.Fatalf("%q, %q and the first one again say %q", a, b, said)
		}
		if both := impl.RunScript(a + b); both != tooLong && !strings.HasPrefix(both, all[i]) {
			t.Fatalf("%q and %q say %q", a, b, both)
		}
	}
	checkScript(t, "schema u8\nto ssz\nfeed 00\n", "ok\nok\nok\n")
	checkScript(t, "state\nzero\nencode ssz 300\n", "rlp 0 0 good\n0\n2c01000000000000\n")
	checkScript(t, "schema u8\nto ssz\nfeed 0101", tooLong)
	checkScript(t, "state\n", "rlp 0 0 good\n")
}

func TestScriptsLeaveNoGoroutine(t *testing.T) {
	before := runtime.NumGoroutine()
	for range 50 {
		impl.RunScript(ended([]string{"feed " + sszFrame + sszFrame, "feed 00", "feed 01", "reset", "feed " + wrongFrame, "state"}))
	}
	if !settled(before) {
		t.Errorf("%d goroutines, at first %d", runtime.NumGoroutine(), before)
	}
}
