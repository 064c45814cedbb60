package tests

import (
	"fmt"
	"math/rand"
	"regexp"
	"slices"
	"strings"
	"testing"

	"loop.example/g00659/impl"
)

// lineForm is that of every line without its line feed.
var lineForm = regexp.MustCompile(`^((put|blind) [^ ]+ [^ ]+|(del|get|who) [^ ]+|(down|crash|up|hand) (0|[1-9][0-9]{0,8})|hints)$`)

// deskModel is what the lines of a text change.
type deskModel struct {
	c    impl.Cluster
	seen []impl.Mark
}

func orNone(words []string) string {
	if len(words) == 0 {
		return "-"
	}
	return strings.Join(words, ",")
}

// wants is the output of good, or the code; the cluster stays as it is if none is returned.
func (m *deskModel) wants(out impl.ClusterOut, good string) string {
	if len(out.Cluster.Stores) > 0 {
		m.c = out.Cluster
	}
	if out.Code != impl.OK {
		return fmt.Sprint("error ", out.Code)
	}
	return good
}

func (m *deskModel) get(key string) string {
	out := getModel(m.c, key, nil)
	if out.Code == impl.OK {
		m.seen = out.Set.Seen
	}
	var values []string
	for _, x := range out.Set.Sibs {
		if !x.Gone {
			values = append(values, x.Data)
		}
	}
	return m.wants(out, orNone(values))
}

func (m *deskModel) who(key string) string {
	if !impl.NameRight(key) {
		return "-"
	}
	o := orderOf(m.c.Ring, key)
	return fmt.Sprintf("%d,%d,%d", o[0], o[1], o[2])
}

func (m *deskModel) turn(t *testing.T, word string, number string) string {
	var node int64
	fmt.Sscan(number, &node)
	switch word {
	case "down":
		return m.wants(downModel(t, m.c, node, 1<<40), "ok")
	case "crash":
		return m.wants(downModel(t, m.c, node, 0), "ok")
	case "up":
		return m.wants(upModel(m.c, node), "ok")
	}
	return m.wants(handoffModel(m.c, node), "ok")
}

func (m *deskModel) output(t *testing.T, line string) string {
	words := strings.Split(line, " ")
	switch words[0] {
	case "put":
		return m.wants(wrote{key: words[1], seen: m.seen, data: words[2]}.model(m.c), "ok")
	case "blind":
		return m.wants(wrote{key: words[1], data: words[2]}.model(m.c), "ok")
	case "del":
		return m.wants(wrote{key: words[1], seen: m.seen, gone: true}.model(m.c), "ok")
	case "get":
		return m.get(words[1])
	case "who":
		return m.who(words[1])
	case "hints":
		return fmt.Sprint(allHints(m.c))
	}
	return m.turn(t, words[0], words[1])
}

// wrongLine is the index of the first line that is wrong, or -1.
func wrongLine(text string) int64 {
	for i := int64(0); text != ""; i++ {
		end := strings.IndexByte(text, '\n')
		if end < 0 || i == impl.MaxDesk || !lineForm.MatchString(text[:end]) {
			return i
		}
		text = text[end+1:]
	}
	return -1
}

// runModel is what DeskRun returns for a text within the size limit.
func runModel(t *testing.T, text string) impl.DeskOut {
	t.Helper()
	if at := wrongLine(text); at >= 0 {
		return impl.DeskOut{Line: at, Code: impl.ErrSyntax}
	}
	m := deskModel{c: clusterOf(4, 3, 2, 2)}
	out := ""
	for _, line := range strings.Split(text, "\n")[:strings.Count(text, "\n")] {
		out += m.output(t, line) + "\n"
	}
	return impl.DeskOut{Text: out}
}

// wantDesk asks both functions.
func wantDesk(t *testing.T, what string, text string, want impl.DeskOut) {
	t.Helper()
	if got := impl.DeskRun(text); got != want {
		t.Errorf("%s: DeskRun(%s): got %+v, want %+v", what, shown(text), got, want)
	}
	want.Text = ""
	if got := impl.DeskFault(text); got != want {
		t.Errorf("%s: DeskFault(%s): got %+v, want %+v", what, shown(text), got, want)
	}
}

func wantWrongLine(t *testing.T, what string, text string, line int64) {
	t.Helper()
	wantDesk(t, what, text, impl.DeskOut{Line: line, Code: impl.ErrSyntax})
}

// wantTalk has lines with the outputs that they should have: "get x > a".
func wantTalk(t *testing.T, what string, talk ...string) {
	t.Helper()
	text, want := "", ""
	for _, said := range talk {
		line, output, found := strings.Cut(said, " > ")
		if !found {
			t.Fatalf("%s: no output in %q", what, said)
		}
		text += line + "\n"
		want += output + "\n"
	}
	got := impl.DeskRun(text)
	if got != (impl.DeskOut{Text: want}) {
		t.Errorf("%s: %q\ngot  %q, line %d, code %d\nwant %q", what, text, got.Text, got.Line, got.Code, want)
	}
	if fault := impl.DeskFault(text); fault != (impl.DeskOut{}) {
		t.Errorf("%s: DeskFault: got %+v", what, fault)
	}
}

func TestDeskExample(t *testing.T) {
	wantTalk(t, "the example", "put x a > ok", "get x > a", "put x b > ok", "blind x c > ok", "hints > 0", "down 9 > error 6", "up 1 > error 10")
}

func TestDeskWords(t *testing.T) {
	want := []string{"blind", "crash", "del", "down", "get", "hand", "hints", "put", "up", "who"}
	words := impl.DeskWords()
	if !slices.Equal(words, want) {
		t.Errorf("got %q, want %q", words, want)
	}
	clear(words[:cap(words)])
	if words := impl.DeskWords(); !slices.Equal(words, want) {
		t.Errorf("behind a changed result: got %q", words)
	}
	if got := impl.DeskRun("get x\nwho x\n"); got.Code != impl.OK {
		t.Errorf("behind a changed result: DeskRun: %+v", got)
	}
}

// goodLines has a line of every word.
func goodLines() []string {
	return []string{"put x a", "blind x b", "del x", "get x", "down 1", "crash 2", "up 1", "hand 4", "hints", "who x"}
}

func TestDeskWordsBeginLines(t *testing.T) {
	var words []string
	for _, line := range goodLines() {
		word, _, _ := strings.Cut(line, " ")
		words = append(words, word)
		wantDesk(t, "a word of DeskWords", line+"\n", runModel(t, line+"\n"))
	}
	slices.Sort(words)
	if !slices.Equal(words, impl.DeskWords()) {
		t.Errorf("got %q, want %q", impl.DeskWords(), words)
	}
	for _, line := range goodLines() {
		for _, word := range impl.DeskWords() {
			_, rest, more := strings.Cut(line, " ")
			if more {
				word += " " + rest
			}
			wantDesk(t, "another word", word+"\n", runModel(t, word+"\n"))
		}
	}
}

// Promise 11.

func TestDeskTextsWithoutLines(t *testing.T) {
	wantDesk(t, "the empty text", "", impl.DeskOut{})
	wantWrongLine(t, "an empty line", "\n", 0)
	wantWrongLine(t, "two empty lines", "\n\n", 0)
	wantWrongLine(t, "an empty line at the end", "hints\n\n", 1)
	wantWrongLine(t, "an empty line between", "hints\n\nhints\n", 1)
	wantWrongLine(t, "a space", " ", 0)
	wantWrongLine(t, "a line with a space", " \n", 0)
	wantWrongLine(t, "a line with two spaces", "  \n", 0)
}

func TestDeskLineFeeds(t *testing.T) {
	for i, line := range goodLines() {
		wantWrongLine(t, "no line feed", line, 0)
		wantWrongLine(t, "no line feed behind a line", "hints\n"+line, 1)
		wantWrongLine(t, "no line feed behind many lines", strings.Repeat("hints\n", i)+line, int64(i))
		wantDesk(t, "another character before it", line+"\r\n", runModel(t, line+"\r\n"))
		wantWrongLine(t, "another line end", line+"\r"+line+"\n", 0)
		wantWrongLine(t, "another character instead", line+"\r", 0)
	}
	// A word of a key may have any other byte, and a number may not.
	wantTalk(t, "carriage returns", "get x\r > error 1", "who x\r > -", "put x a\r > ok", "get x > a\r")
	wantWrongLine(t, "a carriage return behind a number", "up 1\r\n", 0)
	wantWrongLine(t, "a carriage return behind the first word", "hints\r\n", 0)
	wantWrongLine(t, "part of a word", "hints\nhint", 1)
	wantWrongLine(t, "no line feed and wrong", "hints\nhints \nhints", 1)
}

func TestDeskMaxLines(t *testing.T) {
	full := strings.Repeat("hints\n", impl.MaxDesk)
	wantDesk(t, "one less", full[6:], impl.DeskOut{Text: strings.Repeat("0\n", impl.MaxDesk-1)})
	wantDesk(t, "MaxDesk lines", full, impl.DeskOut{Text: strings.Repeat("0\n", impl.MaxDesk)})
	for what, rest := range map[string]string{"one more": "hints\n", "many more": strings.Repeat("hints\n", 1000), "one more without a line feed": "hints",
		"an empty line more": "\n", "a wrong line more": "hints 1\n", "a character more": "h", "two more, the last one wrong": "hints\n?\n"} {
		wantWrongLine(t, what, full+rest, impl.MaxDesk)
	}
	wantWrongLine(t, "one more, the last one of the others wrong", full[6:]+"hint\nhints\n", impl.MaxDesk-1)
	wantWrongLine(t, "one more, the first one wrong", "hint\n"+full, 0)
	wantWrongLine(t, "MaxDesk lines, the last one without its line feed", full[:len(full)-1], impl.MaxDesk-1)
	text := strings.Repeat("put x a\nget x\n", impl.MaxDesk/2)
	if got := strings.Count(impl.DeskRun(text).Text, "\n"); got != impl.MaxDesk {
		t.Errorf("%d lines of output, want %d", got, impl.MaxDesk)
	}
}

// wrongLines has lines that are malformed for one reason each.
func wrongLines() []string {
	l := []string{"", " ", "x", "?", "0", "ok", "-", "Hints", "HINTS", "hint", "hintss", "hints0", "hints\t", "\thints", "hints\x00", "put\tx\ta", "putx a",
		"put x,a", "put\u00a0x a", "get\u2003x", "down1", "delete x", "exit", "#", "read x", "write x a", "hints hints", "hints -", "hints x"}
	for _, line := range goodLines() {
		word, rest, more := strings.Cut(line, " ")
		l = append(l, " "+line, line+" ", "  "+line, line+"  ", line+" x", line+" 1", line+" x x", strings.ToUpper(line), word[1:], "x"+line, word+"x "+rest)
		if more {
			l = append(l, word, word+" ", word+"  ", word+"  "+rest, word+"\t"+rest, word+rest)
		}
		for i := range len(line) {
			if line[i] == ' ' {
				l = append(l, line[:i]+" "+line[i:], line[:i])
			}
		}
	}
	for _, word := range []string{"put", "blind"} {
		l = append(l, word+" x", word+" x ", word+"  a", word+" x a b", word+" x  a", word+" x a b c")
	}
	return l
}

func TestDeskWrongLines(t *testing.T) {
	for _, line := range wrongLines() {
		what := fmt.Sprintf("%q", line)
		wantWrongLine(t, what, line+"\n", 0)
		wantWrongLine(t, what+" without a line feed", "hints\n"+line+"x", 1)
		wantWrongLine(t, what+" before a good line", line+"\nhints\n", 0)
		wantWrongLine(t, what+" before a wrong line", "get x\n"+line+"\n?\n", 1)
	}
}

// TestDeskWrongLineBehindGoodOnes: what the good lines would output is not returned.
func TestDeskWrongLineBehindGoodOnes(t *testing.T) {
	good := ""
	for i := range int64(impl.MaxDesk + 1) {
		for _, wrong := range []string{"\n", "?\n", "put x\n", "down x\n", "hints", "get  x\n", "\nhints\n", "up 01\nup 1\n"} {
			wantWrongLine(t, fmt.Sprint("behind good lines: ", wrong), good+wrong, i)
		}
		good += goodLines()[i%10] + "\n"
	}
}

func TestDeskNumbers(t *testing.T) {
	for _, word := range []string{"down", "crash", "up", "hand"} {
		there := map[string]string{"down": "ok", "crash": "ok", "up": "error 10", "hand": "ok"}[word]
		for _, number := range []string{"1", "2", "3", "4"} {
			wantTalk(t, word, word+" "+number+" > "+there)
		}
		for _, number := range []string{"0", "5", "6", "9", "10", "11", "99", "100", "4294967297", "999999999", "100000000", "123456789"} {
			if len(number) > 9 {
				wantWrongLine(t, word+" with "+number, word+" "+number+"\n", 0)
			} else {
				wantTalk(t, word, word+" "+number+" > error 6")
			}
		}
		for _, number := range []string{"00", "01", "04", "001", "000000001", "0000000001", "0000000000", "1000000000", "9999999999", "1234567890",
			"18446744073709551617", "9223372036854775807", "9223372036854775808", strings.Repeat("1", 100), "+1", "-1", "+0", "-0", "-", "+", "--1",
			"a", "x", "1a", "a1", "1x", "0x1", "1e0", "1_0", "0b1", "1.", "1.0", ".1", "1,2", "1\t", "\t1", "1\r", "1\x00", "\u0661", "\uff11", "\u00b9", "one"} {
			wantWrongLine(t, word+" with "+number, word+" "+number+"\n", 0)
			wantWrongLine(t, word+" with "+number+", behind a good line", word+" 1\n"+word+" "+number+"\n", 1)
		}
	}
}

func TestDeskKeys(t *testing.T) {
	names := []string{"a", "z", "a_9", "cart", strings.Repeat("k", 20), "put", "hints"}
	for _, key := range names {
		wantTalk(t, "the key "+key, "put "+key+" v > ok", "get "+key+" > v", "blind "+key+" w > ok", "del "+key+" > ok", "get "+key+" > w")
	}
	for _, key := range []string{"A", "_a", "9", "0", "-", "x-y", "x.y", "x\ty", "x\x00", "x\r", "\xff", "\xc3\xa9", "\u00e9", ",", strings.Repeat("k", 21), strings.Repeat("k", 1500)} {
		wantTalk(t, "no name "+shown(key), "put "+key+" v > error 1", "blind "+key+" v > error 1", "del "+key+" > error 1", "get "+key+" > error 1", "who "+key+" > -")
	}
}

func TestDeskSizeLimit(t *testing.T) {
	for word, output := range map[string]string{"get": "error 1", "del": "error 1", "who": "-"} {
		key := strings.Repeat("k", impl.MaxBytes-5)
		wantTalk(t, "a text of MaxBytes bytes", word+" "+key+" > "+output)
		wantDesk(t, "one byte more", word+" "+key+"k\n", impl.DeskOut{Code: impl.ErrSize})
		wantDesk(t, "one byte more, no line feed", word+" "+key+"kk", impl.DeskOut{Code: impl.ErrSize})
		wantWrongLine(t, "MaxBytes bytes, no line feed", word+" "+key+"k", 0)
		wantDesk(t, "a key of MaxBytes bytes", word+" "+key+"kkkkk\n", impl.DeskOut{Code: impl.ErrSize})
		wantDesk(t, "a longer key", word+" "+key+"kkkkkk\n", impl.DeskOut{Code: impl.ErrSize})
	}
	data := strings.Repeat("d", impl.MaxBytes-7)
	wantTalk(t, "much data", "put x "+data+" > error 1")
	wantDesk(t, "more data", "put x "+data+"d\n", impl.DeskOut{Code: impl.ErrSize})
	wantWrongLine(t, "empty lines of MaxBytes bytes", strings.Repeat("\n", impl.MaxBytes), 0)
	wantWrongLine(t, "spaces of MaxBytes bytes", strings.Repeat(" ", impl.MaxBytes), 0)
	wantWrongLine(t, "lines of MaxBytes bytes", strings.Repeat("get key\n", impl.MaxBytes/8), impl.MaxDesk)
	for _, piece := range []string{"\n", " ", "?", "hints\n", "\x00"} {
		text := strings.Repeat(piece, impl.MaxBytes)
		wantDesk(t, "too long", text[:impl.MaxBytes-1]+"hi", impl.DeskOut{Code: impl.ErrSize})
		wantDesk(t, "far too long", text+text+"\n", impl.DeskOut{Code: impl.ErrSize})
	}
}

func TestDeskData(t *testing.T) {
	for _, data := range []string{"a", "-", ",", "a,b", "0", "put", "A", "_", "\t", "\r", "\x00", "\xff\xfe", "\u00e9\u4e16", "\u00a0", "\u2028", "\"'\\", strings.Repeat("d", impl.MaxData)} {
		wantTalk(t, "data "+shown(data), "put x "+data+" > ok", "get x > "+data, "blind x b > ok", "get x > "+data+",b")
	}
	for _, data := range []string{strings.Repeat("d", impl.MaxData+1), strings.Repeat("\u00e9", 9), strings.Repeat("d", 1000)} {
		wantTalk(t, "long data "+shown(data), "put x "+data+" > error 1", "blind x "+data+" > error 1", "get x > -")
	}
}

func TestDeskReads(t *testing.T) {
	wantTalk(t, "no value", "get x > -", "get y > -", "put y a > ok", "get x > -")
	wantTalk(t, "one value", "put x a > ok", "get x > a", "get x > a")
	wantTalk(t, "several values", "blind x c > ok", "blind x a > ok", "blind x b > ok", "get x > c,a,b", "blind x a > ok", "get x > c,a,b,a")
	wantTalk(t, "a deletion", "put x a > ok", "get x > a", "del x > ok", "get x > -", "put x b > ok", "get x > b")
	wantTalk(t, "a deletion of nothing", "del x > ok", "get x > -")
	wantTalk(t, "a deletion beside values", "blind x a > ok", "get x > a", "blind x b > ok", "del x > ok", "get x > b")
	wantTalk(t, "a deletion by one who has read nothing", "blind x a > ok", "del x > ok", "get x > a", "del x > ok", "get x > -")
	wantTalk(t, "two keys", "blind x a > ok", "blind y b > ok", "get y > b", "get x > a")
	wantTalk(t, "a value that is the sign for none", "put x - > ok", "get x > -", "blind x - > ok", "get x > -,-")
	wantTalk(t, "another text begins anew", "get x > -")
}

func TestDeskLastSeen(t *testing.T) {
	wantTalk(t, "put before any get", "put x a > ok", "put x b > ok", "get x > a,b")
	wantTalk(t, "put behind a get", "put x a > ok", "get x > a", "put x b > ok", "get x > b")
	wantTalk(t, "put twice behind a get", "put x a > ok", "get x > a", "put x b > ok", "put x c > ok", "get x > b,c")
	wantTalk(t, "del before any get", "put x a > ok", "del x > ok", "get x > a")
	wantTalk(t, "del behind a get", "put x a > ok", "get x > a", "del x > ok", "get x > -")
	wantTalk(t, "blind behind a get", "put x a > ok", "get x > a", "blind x b > ok", "get x > a,b")
	wantTalk(t, "put behind blind", "blind x a > ok", "get x > a", "blind x b > ok", "put x c > ok", "get x > b,c")
	wantTalk(t, "a later get of a key without a value", "put x a > ok", "get x > a", "get y > -", "put x b > ok", "get x > a,b")
	wantTalk(t, "a later get of another key", "blind cart a > ok", "get cart > a", "blind x b > ok", "get x > b", "put cart c > ok", "get cart > a,c")
	// The first owner of both keys is the same, so that the dots are the same.
	wantTalk(t, "the version vector of another key", "blind x a > ok", "blind y b > ok", "get x > a", "put y c > ok", "get y > c")
	wantTalk(t, "a get that fails", "put x a > ok", "get x > a", "get X > error 1", "put x b > ok", "get x > b")
	wantTalk(t, "other lines between", "put x a > ok", "get x > a", "hints > 0", "who y > 4,2,3", "down 1 > ok", "up 1 > ok", "hand 1 > ok", "put x b > ok", "get x > b")
}

// TestDeskCodes has every code of every function, and the zero values beside it: the cluster and what was seen last are as before.
// The nodes follow each other in the order 4, 2, 3, 1 for the key x.
func TestDeskCodes(t *testing.T) {
	wantTalk(t, "GoDown", "down 0 > error 6", "down 5 > error 6", "crash 0 > error 6", "crash 5 > error 6", "down 2 > ok", "down 2 > error 10",
		"crash 2 > error 10", "crash 3 > ok", "crash 3 > error 10", "down 3 > error 10", "up 2 > ok", "down 2 > ok")
	wantTalk(t, "GoUp", "up 0 > error 6", "up 5 > error 6", "up 1 > error 10", "down 1 > ok", "up 2 > error 10", "up 1 > ok", "up 1 > error 10")
	wantTalk(t, "Handoff", "hand 0 > error 6", "hand 5 > error 6", "hand 1 > ok", "down 1 > ok", "hand 1 > error 11", "hand 2 > ok", "up 1 > ok", "hand 1 > ok")
	wantTalk(t, "Put, owners down", "put x a > ok", "get x > a", "down 4 > ok", "down 2 > ok", "down 3 > ok", "put x b > error 11", "blind x b > error 11",
		"del x > error 11", "up 4 > ok", "get x > a", "up 2 > ok", "up 3 > ok", "get x > a")
	wantTalk(t, "Get of few", "put x a > ok", "get x > a", "down 1 > ok", "down 2 > ok", "down 3 > ok", "get x > error 12", "hints > 0", "down 1 > error 10",
		"up 2 > ok", "put x b > ok", "get x > b")
	wantTalk(t, "no node", "down 1 > ok", "down 2 > ok", "down 3 > ok", "down 4 > ok", "get x > error 12", "put x a > error 11", "hints > 0", "who x > 4,2,3", "up 4 > ok", "get x > error 12")
	sibs := []string{}
	for range impl.MaxSibs {
		sibs = append(sibs, "blind x v > ok")
	}
	wantTalk(t, "Put, siblings", append(sibs, "blind x w > error 9", "put x w > error 9", "del x > error 9", "get x > v,v,v,v,v,v,v,v", "put x w > ok", "get x > w")...)
	wantTalk(t, "Put, items", "put a v > ok", "put b v > ok", "put c v > ok", "put d v > ok", "put e v > ok", "put f v > ok", "put g w > error 9", "get g > -", "get f > v")
	five := []string{"blind x v > ok", "blind x v > ok", "blind x v > ok", "blind x v > ok", "blind x v > ok"}
	apart := slices.Concat([]string{"down 2 > ok", "down 3 > ok"}, five, []string{"get x > v,v,v,v,v", "up 2 > ok", "up 3 > ok", "down 4 > ok"}, five)
	wantTalk(t, "Get, siblings", append(apart, "get x > v,v,v,v,v", "up 4 > ok", "get x > error 9", "hints > 2", "down 4 > ok", "put x w > ok", "get x > w")...)
}

// TestDeskWritesOfFew: beside ErrFew a write leaves what it has written.
func TestDeskWritesOfFew(t *testing.T) {
	alone := []string{"down 1 > ok", "down 2 > ok", "down 3 > ok"}
	wantTalk(t, "put", append(alone, "put x a > error 12", "get x > error 12", "up 2 > ok", "get x > a", "put x b > ok", "get x > b")...)
	wantTalk(t, "blind", append(alone, "blind x a > error 12", "blind x b > error 12", "up 1 > ok", "get x > a,b")...)
	wantTalk(t, "put of the last seen", slices.Concat([]string{"put x a > ok", "get x > a"}, alone, []string{"put x b > error 12", "up 3 > ok", "get x > b"})...)
	wantTalk(t, "del", slices.Concat([]string{"put x a > ok", "get x > a"}, alone, []string{"del x > error 12", "up 3 > ok", "get x > -"})...)
	wantTalk(t, "nothing is seen", append(alone, "put x a > error 12", "put x b > error 12", "up 1 > ok", "get x > a,b")...)
}

func TestDeskOwners(t *testing.T) {
	for _, key := range someKeys() {
		o := orderOf(ringOf(4, 4), key)
		want := fmt.Sprintf("who %s > %d,%d,%d", key, o[0], o[1], o[2])
		wantTalk(t, "all nodes up", want)
		wantTalk(t, "nodes down", "down 1 > ok", want, "crash 4 > ok", want, "down 2 > ok", want, "down 3 > ok", want)
		wantTalk(t, "written", "put "+key+" a > ok", want)
	}
	wantTalk(t, "numbers are no names", "who 0 > -", "who 1 > -", "who 3 > -", "who 4 > -", "who 5 > -", "who 999999999 > -", "who 9999999999 > -", "who 00 > -", "who -1 > -")
	wantTalk(t, "names with numbers", "who a > 1,4,2", "who x > 4,2,3", "who cart > 2,3,1")
	wantWrongLine(t, "who without a key", "who\n", 0)
	wantWrongLine(t, "who with a key and a number", "who x 3\n", 0)
	wantWrongLine(t, "who with a number and a key", "who 3 x\n", 0)
}

// TestDeskPowerFailures: every write is synced, so that neither kind of going down loses one.
func TestDeskPowerFailures(t *testing.T) {
	for _, word := range []string{"down", "crash"} {
		for _, node := range []string{"1", "2", "3", "4"} {
			wantTalk(t, word, "put x a > ok", word+" "+node+" > ok", "hints > 0", "up "+node+" > ok", "get x > a", "hints > 0")
		}
		wantTalk(t, word+" of one after the other", "put x a > ok", word+" 4 > ok", "up 4 > ok", word+" 2 > ok", "up 2 > ok", word+" 3 > ok", "up 3 > ok", "get x > a")
		wantTalk(t, word+" of a node with a hint", "down 4 > ok", "put x a > ok", "hints > 1", word+" 1 > ok", "hints > 1", "up 1 > ok", "up 4 > ok", "hand 1 > ok",
			"hints > 0", word+" 2 > ok", word+" 3 > ok", "get x > a")
		wantTalk(t, word+" of all", "put x a > ok", word+" 1 > ok", word+" 2 > ok", word+" 3 > ok", word+" 4 > ok", "up 1 > ok", "up 2 > ok", "up 3 > ok", "up 4 > ok", "get x > a")
	}
}

func TestDeskHints(t *testing.T) {
	wantTalk(t, "hints for two", "down 4 > ok", "blind x a > ok", "blind y a > ok", "hints > 2", "blind x b > ok", "hints > 2", "up 4 > ok", "hints > 2",
		"hand 2 > ok", "hints > 2", "hand 1 > ok", "hints > 0", "hand 1 > ok", "get x > a,b")
	wantTalk(t, "not handed off to a node that is down", "down 4 > ok", "blind x a > ok", "hand 1 > ok", "hints > 1", "up 4 > ok", "hand 1 > ok", "hints > 0")
	wantTalk(t, "a read leaves a hint", "blind x a > ok", "down 4 > ok", "hints > 0", "get x > a", "hints > 1")
}

// Promise 12.

// TestDeskOverwrites follows values of any key through every line, with any owner unavailable.
func TestDeskOverwrites(t *testing.T) {
	for _, word := range []string{"down", "crash"} {
		for _, k := range someKeys() {
			o := orderOf(ringOf(4, 4), k)
			for i := range 3 {
				node := fmt.Sprint(" ", o[i], " > ok")
				second, third, standIn := fmt.Sprint(" ", o[(i+1)%3], " > ok"), fmt.Sprint(" ", o[(i+2)%3], " > ok"), fmt.Sprint(" ", o[3], " > ok")
				wantTalk(t, fmt.Sprint(k, ", ", word, " of owner ", i),
					"put "+k+" a > ok", "get "+k+" > a", "hints > 0", word+node, "put "+k+" b > ok", "blind "+k+" c > ok", "hints > 1", "get "+k+" > b,c",
					"up"+node, "hand"+standIn, "hints > 0", word+second, word+third, "get "+k+" > b,c", // from this node, as the stand-in has dropped its hint
					"del "+k+" > ok", "get "+k+" > -", "up"+second, "up"+third, "hand"+standIn, "hints > 0", word+node, "get "+k+" > -",
					"up"+node, "hand"+standIn, "get "+k+" > -", "blind "+k+" d > ok", "get "+k+" > d", "hints > 0")
			}
		}
	}
}

// TestDeskDeletionsPersist: the node with the value that was deleted while it was down is read alone with a stand-in.
func TestDeskDeletionsPersist(t *testing.T) {
	for _, k := range someKeys() {
		o := orderOf(ringOf(4, 4), k)
		for i := range 3 {
			node := fmt.Sprint(" ", o[i], " > ok")
			second, third, standIn := fmt.Sprint(" ", o[(i+1)%3], " > ok"), fmt.Sprint(" ", o[(i+2)%3], " > ok"), fmt.Sprint(" ", o[3], " > ok")
			before := []string{"put " + k + " a > ok", "get " + k + " > a", "down" + node, "del " + k + " > ok", "hints > 1", "up" + node}
			wantTalk(t, k+", handed off", append(before, "hand"+standIn, "hints > 0", "down"+second, "crash"+third, "get "+k+" > -")...)
			wantTalk(t, k+", repaired", append(before, "get "+k+" > -", "down"+second, "crash"+third, "get "+k+" > -")...)
			wantTalk(t, k+", neither", append(before, "down"+second, "crash"+third, "get "+k+" > a")...)
		}
	}
}

// TestDeskReadersOverwriteWhatTheyRead has any number of values before and behind the read.
func TestDeskReadersOverwriteWhatTheyRead(t *testing.T) {
	// At no time there are more than MaxSibs values.
	for before := range impl.MaxSibs + 1 {
		for behind := range impl.MaxSibs + 1 - max(before, 1) {
			var talk, read, left []string
			for i := range before {
				talk = append(talk, fmt.Sprintf("blind x b%d > ok", i))
				read = append(read, fmt.Sprint("b", i))
			}
			talk = append(talk, "get x > "+orNone(read))
			for i := range behind {
				talk = append(talk, fmt.Sprintf("blind x c%d > ok", i))
				left = append(left, fmt.Sprint("c", i))
			}
			wantTalk(t, "deleted", append(slices.Clone(talk), "del x > ok", "get x > "+orNone(left))...)
			wantTalk(t, "overwritten", append(talk, "put x d > ok", "get x > "+orNone(append(left, "d")))...)
		}
	}
}

// someLine has lines that are right, of few keys or of many.
func someLine(r *rand.Rand, keys []string) string {
	key := keys[r.Intn(len(keys))]
	node := r.Intn(6)
	switch r.Intn(14) {
	case 0:
		return fmt.Sprint("down ", node)
	case 1:
		return fmt.Sprint("crash ", node)
	case 2, 3:
		return fmt.Sprint("up ", node)
	case 4:
		return fmt.Sprint("hand ", node)
	case 5:
		return "hints"
	case 6:
		return "who " + key
	case 7:
		return "del " + key
	case 8, 9, 10:
		return "get " + key
	case 11:
		return "put " + key + " " + strings.Repeat("d", 1+r.Intn(17))
	}
	return "blind " + key + " " + string(rune('a'+r.Intn(26)))
}

func somePages(count int) []string {
	var pages []string
	for seed := range int64(count) {
		r := rand.New(rand.NewSource(seed))
		keys := [][]string{{"x"}, {"x", "cart"}, {"a", "x", "cart", "X"}, {"a", "b", "c", "d", "e", "f", "g", "x"}}[seed%4]
		text := ""
		for range 1 + r.Intn(impl.MaxDesk) {
			text += someLine(r, keys) + "\n"
		}
		pages = append(pages, text)
	}
	return pages
}

// TestDeskPages compares any lines in any order with what another implementation outputs.
func TestDeskPages(t *testing.T) {
	outputs := map[string]int{}
	for _, text := range somePages(3000) {
		want := runModel(t, text)
		wantDesk(t, text, text, want)
		got := impl.DeskRun(text)
		if lines := strings.Count(got.Text, "\n"); lines != strings.Count(text, "\n") {
			t.Errorf("%q: %d lines of output: %q", text, lines, got.Text)
		}
		for i, output := range strings.Split(want.Text, "\n") {
			word, _, _ := strings.Cut(strings.Split(text, "\n")[i], " ")
			outputs[word+" "+output]++
		}
		if t.Failed() {
			t.FailNow()
		}
	}
	for _, output := range []string{"put ok", "put error 1", "put error 9", "put error 11", "put error 12", "blind ok", "blind error 1", "blind error 9",
		"blind error 11", "blind error 12", "del ok", "del error 1", "del error 9", "del error 11", "del error 12", "get -", "get error 1", "get error 12", "down ok",
		"down error 6", "down error 10", "crash ok", "crash error 6", "crash error 10", "up ok", "up error 6", "up error 10", "hand ok", "hand error 6",
		"hand error 11", "hints 0", "hints 1", "hints 2", "who -"} {
		if outputs[output] < 3 {
			t.Errorf("%q: %d times", output, outputs[output])
		}
	}
}

// TestDeskChangedPages removes, inserts or changes a byte anywhere.
func TestDeskChangedPages(t *testing.T) {
	r := rand.New(rand.NewSource(1))
	wrong, right := 0, 0
	for _, text := range somePages(120) {
		for range 40 {
			at, b := r.Intn(len(text)), string(" \n\r\t0159ax_-,\xff"[r.Intn(14)])
			changed := []string{text[:at] + text[at+1:], text[:at] + b + text[at:], text[:at] + b + text[at+1:], text[:at], text[at:]}[r.Intn(5)]
			want := runModel(t, changed)
			wantDesk(t, "changed", changed, want)
			if want.Code == impl.OK {
				right++
			} else {
				wrong++
			}
		}
		if t.Failed() {
			t.FailNow()
		}
	}
	if wrong < 500 || right < 500 {
		t.Errorf("%d texts are wrong, %d right", wrong, right)
	}
}
