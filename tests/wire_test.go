package tests

import (
	"encoding/binary"
	"hash/crc32"
	"math"
	"math/rand"
	"regexp"
	"strings"
	"testing"

	"loop.example/g00659/impl"
)

// msgRule is what the messages of a kind must have, or must not have, beyond what all messages must.
type msgRule struct {
	someReq bool
	minSeen int
	maxSeen int
	maxSibs int
}

// msgRules are by kind.
var msgRules = map[int64]msgRule{
	1: {someReq: true, minSeen: 0, maxSeen: 0, maxSibs: 0},
	2: {someReq: true, minSeen: 0, maxSeen: 5, maxSibs: 8},
	3: {someReq: false, minSeen: 1, maxSeen: 5, maxSibs: 8},
	4: {someReq: false, minSeen: 1, maxSeen: 5, maxSibs: 0},
}

var namePattern = regexp.MustCompile(`\A[a-z][a-z0-9_]{0,19}\z`)

func isNode(node int64) bool {
	return node > 0 && node < 6
}

// isMsg is the document's condition for a valid message.
func isMsg(m impl.Msg) bool {
	rule, known := msgRules[m.Kind]
	if !known || !isNode(m.From) || !isNode(m.To) || !isNode(m.For) || !namePattern.MatchString(m.Key) {
		return false
	}
	if m.Req < 0 || m.Req > 1000000 || rule.someReq && m.Req == 0 {
		return false
	}
	seen, sibs := len(m.Set.Seen), len(m.Set.Sibs)
	return impl.SetRight(m.Set) && seen >= rule.minSeen && seen <= rule.maxSeen && sibs <= rule.maxSibs
}

// sealText seals with another implementation of the checksum, and a text of any length.
func sealText(body string) string {
	return string(binary.LittleEndian.AppendUint32([]byte(body), crc32.ChecksumIEEE([]byte(body))))
}

// msgParts encodes with another implementation of the integers, the numbers before the Set each a part of its own; the message may be invalid.
func msgParts(m impl.Msg) []string {
	return []string{numText(m.Kind), numText(m.From), numText(m.To), numText(m.Req),
		numText(int64(len(m.Key))), m.Key, numText(m.For), setText(m.Set)}
}

func msgText(m impl.Msg) string {
	return sealText(strings.Join(msgParts(m), ""))
}

func sameMsg(a impl.Msg, b impl.Msg) bool {
	route := a.Kind == b.Kind && a.From == b.From && a.To == b.To && a.Req == b.Req
	return route && a.Key == b.Key && a.For == b.For && sameSet(a.Set, b.Set)
}

func wantMsgOut(t *testing.T, what string, got impl.MsgOut, want impl.MsgOut) {
	t.Helper()
	if got.Code != want.Code || !sameMsg(got.Msg, want.Msg) {
		t.Errorf("%s: got %#v, want %#v", what, got, want)
	}
}

func wantMsgCode(t *testing.T, what string, got impl.MsgOut, code int64) {
	t.Helper()
	wantMsgOut(t, what, got, impl.MsgOut{Code: code})
}

// wantMsg checks a message against the document's condition, and that it is decoded from its encoding exactly if it is valid.
func wantMsg(t *testing.T, what string, m impl.Msg) {
	t.Helper()
	text := msgText(m)
	if !isMsg(m) {
		wantNoMsg(t, what, m)
		return
	}
	if !impl.MsgRight(m) {
		t.Errorf("%s: %#v is not valid", what, m)
	}
	if got := impl.MsgBytes(m); got != text {
		t.Errorf("%s: MsgBytes(%#v): got %q, want %q", what, m, got, text)
	}
	wantMsgOut(t, what, impl.MsgRead(text), impl.MsgOut{Msg: m})
}

// wantNoMsg does not report the message, which may be large.
func wantNoMsg(t *testing.T, what string, m impl.Msg) {
	t.Helper()
	if impl.MsgRight(m) {
		t.Errorf("%s: valid", what)
	}
	if got := impl.MsgBytes(m); got != "" {
		t.Errorf("%s: MsgBytes: got %s", what, shown(got))
	}
	text, want := msgText(m), int64(impl.ErrSyntax)
	if len(text) > impl.MaxBytes {
		want = impl.ErrSize
	}
	wantMsgCode(t, what+": MsgRead", impl.MsgRead(text), want)
}

// seenSet has seen n writes of node 2 and others, none of which remains.
func seenSet(n int64) impl.Set {
	return impl.Set{Seen: counts{0, 0, n, 0, 3}.marks()}
}

// sampleMsgs has a valid message of each kind and, where it may, with other Sets.
func sampleMsgs() []impl.Msg {
	return []impl.Msg{
		{Kind: 1, From: 1, To: 2, Req: 3, Key: "x", For: 2},
		{Kind: 2, From: 2, To: 1, Req: 3, Key: "cart", For: 4},
		{Kind: 2, From: 5, To: 4, Req: 64, Key: "cart", For: 1, Set: seenSet(2)},
		{Kind: 2, From: 3, To: 3, Req: impl.MaxTime, Key: "a_9", For: 3, Set: nodeSet(3, 2)},
		{Kind: 3, From: 1, To: 5, Req: 0, Key: "x", For: 2, Set: nodeSet(1, impl.MaxSibs)},
		{Kind: 3, From: 1, To: 2, Req: 1, Key: "x", For: 2, Set: seenSet(impl.MaxTime)},
		{Kind: 4, From: 4, To: 1, Req: 0, Key: "abcdefghij0123456789", For: 4, Set: seenSet(1)},
		{Kind: 4, From: 2, To: 1, Req: 8192, Key: "b", For: 5, Set: seenSet(64)},
	}
}

func TestMessageExamples(t *testing.T) {
	if impl.MsRead != 1 || impl.MsTold != 2 || impl.MsKeep != 3 || impl.MsKept != 4 {
		t.Errorf("kinds: %d, %d, %d, %d", impl.MsRead, impl.MsTold, impl.MsKeep, impl.MsKept)
	}
	m := impl.Msg{Kind: impl.MsRead, From: 1, To: 2, Req: 3, Key: "x", For: 2}
	text := sealText("\x02\x02\x04\x06\x02\x78\x04\x00\x00")
	if got := impl.MsgBytes(m); got != text {
		t.Errorf("MsgBytes: got %q, want %q", got, text)
	}
	wantMsgOut(t, "MsgRead", impl.MsgRead(text), impl.MsgOut{Msg: m})
	for i, m := range sampleMsgs() {
		if !isMsg(m) {
			t.Errorf("sample %d is not valid", i)
		}
		wantMsg(t, "sample", m)
	}
}

func TestMessageKinds(t *testing.T) {
	for _, m := range sampleMsgs() {
		for _, kind := range []int64{-4, -3, -2, -1, 0, 1, 2, 3, 4, 5, 6, 128, 256, 257, 1<<32 + 1, 1<<32 + 3, math.MinInt64, math.MaxInt64} {
			m.Kind = kind
			wantMsg(t, "kind "+numText(kind), m)
		}
	}
}

func TestMessageNodes(t *testing.T) {
	nodes := append([]int64{1, 2, 3, 4, impl.MaxNodes}, wrongNodes()...)
	for _, m := range sampleMsgs() {
		for _, node := range nodes {
			from, to, who := m, m, m
			from.From, to.To, who.For = node, node, node
			wantMsg(t, "From", from)
			wantMsg(t, "To", to)
			wantMsg(t, "For", who)
		}
	}
	for _, m := range sampleMsgs() {
		for i := range 7 * 7 * 7 {
			m.From, m.To, m.For = int64(i%7), int64(i/7%7), int64(i/49)
			wantMsg(t, "From, To, For", m)
		}
	}
}

func TestMessageReqs(t *testing.T) {
	for _, m := range sampleMsgs() {
		for _, req := range []int64{math.MinInt64, -impl.MaxTime, -2, -1, 0, 1, 2, 63, 64, impl.MaxTime - 1, impl.MaxTime,
			impl.MaxTime + 1, 1 << 32, 1<<32 + 1, math.MaxInt64} {
			m.Req = req
			wantMsg(t, "Req", m)
			if got, want := impl.MsgRight(m), req >= 0 && req <= impl.MaxTime && (req > 0 || m.Kind > 2); got != want {
				t.Errorf("kind %d with Req %d: got %v", m.Kind, req, got)
			}
		}
	}
}

func TestMessageKeys(t *testing.T) {
	for _, m := range sampleMsgs() {
		for _, key := range append(someKeys(), "a", "z", "a_", strings.Repeat("k", 20)) {
			m.Key = key
			wantMsg(t, "key "+shown(key), m)
			if !impl.MsgRight(m) {
				t.Errorf("key %q: not valid", key)
			}
		}
		for _, key := range append(notKeys(), notNames()...) {
			m.Key = key
			wantNoMsg(t, "key "+shown(key), m)
			wantMsgCode(t, "MsgTurn, key "+shown(key), impl.MsgTurn(m, 3, nodeSet(1, 1)), impl.ErrForm)
		}
	}
}

func TestMessageSets(t *testing.T) {
	sets := append(someSets(), impl.Set{}, seenSet(1), nodeSet(2, 1), nodeSet(5, impl.MaxSibs))
	for kind := int64(1); kind <= 4; kind++ {
		right := 0
		for i, set := range sets {
			m := impl.Msg{Kind: kind, From: 1, To: 2, Req: int64(i + 1), Key: "x", For: 3, Set: set}
			wantMsg(t, "Set", m)
			if impl.MsgRight(m) {
				right++
			}
		}
		if right == 0 || right == len(sets) && kind != 2 {
			t.Errorf("kind %d: %d of %d Sets", kind, right, len(sets))
		}
		for _, set := range notSets() {
			m := impl.Msg{Kind: kind, From: 1, To: 2, Req: 7, Key: "x", For: 3, Set: set}
			wantNoMsg(t, "invalid Set", m)
		}
		empty := impl.Msg{Kind: kind, From: 1, To: 2, Req: 7, Key: "x", For: 3, Set: impl.Set{Seen: []impl.Mark{}, Sibs: []impl.Sib{}}}
		wantMsg(t, "empty lists", empty)
	}
}

// TestMessagesNeedWhatTheirKindHas does not rely on the model.
func TestMessagesNeedWhatTheirKindHas(t *testing.T) {
	none, seen, both := impl.Set{}, seenSet(2), nodeSet(2, 2)
	sibsOnly := impl.Set{Sibs: both.Sibs}
	for kind, want := range map[int64][4]bool{
		impl.MsRead: {true, false, false, false},
		impl.MsTold: {true, true, true, false},
		impl.MsKeep: {false, true, true, false},
		impl.MsKept: {false, true, false, false},
	} {
		for i, set := range []impl.Set{none, seen, both, sibsOnly} {
			m := impl.Msg{Kind: kind, From: 1, To: 2, Req: 7, Key: "x", For: 3, Set: set}
			if got := impl.MsgRight(m); got != want[i] {
				t.Errorf("kind %d, Set %d: got %v", kind, i, got)
			}
			wantMsg(t, "with and without", m)
		}
	}
}

// someMsgs has valid messages of all kinds with any fields.
func someMsgs(count int) []impl.Msg {
	r := rand.New(rand.NewSource(8))
	sets, keys := someSets(), someKeys()
	var l []impl.Msg
	for len(l) < count {
		m := impl.Msg{Kind: 1 + r.Int63n(4), From: 1 + r.Int63n(5), To: 1 + r.Int63n(5), For: 1 + r.Int63n(5), Key: keys[r.Intn(len(keys))]}
		m.Req = []int64{0, 1, 63, 64, 8191, 8192, impl.MaxTime - 1, impl.MaxTime}[r.Intn(8)]
		if m.Kind > 1 {
			m.Set = sets[r.Intn(len(sets))]
		}
		if m.Kind == 4 {
			m.Set.Sibs = nil
		}
		if isMsg(m) {
			l = append(l, m)
		}
	}
	return l
}

// Promise 13.

func TestMessagesAreDecoded(t *testing.T) {
	kinds := map[int64]int{}
	for _, m := range someMsgs(1500) {
		text := impl.MsgBytes(m)
		wantMsgOut(t, "MsgRead", impl.MsgRead(text), impl.MsgOut{Msg: m})
		wantMsg(t, "any message", m)
		kinds[m.Kind]++
	}
	if len(kinds) != 4 {
		t.Errorf("kinds: %v", kinds)
	}
}

func TestChangedMessagesAreRejected(t *testing.T) {
	for _, m := range sampleMsgs() {
		text := impl.MsgBytes(m)
		for i := range text {
			for change := 1; change < 256; change++ {
				b := []byte(text)
				b[i] ^= byte(change)
				wantMsgCode(t, "one byte changed", impl.MsgRead(string(b)), impl.ErrSum)
			}
		}
	}
	for i, m := range someMsgs(1500) {
		b := []byte(impl.MsgBytes(m))
		b[i%len(b)] ^= byte(1 + i%255)
		wantMsgCode(t, "one byte changed", impl.MsgRead(string(b)), impl.ErrSum)
	}
}

func TestCutMessagesAreRejected(t *testing.T) {
	for _, m := range append(sampleMsgs(), someMsgs(100)...) {
		text := msgText(m)
		for cut := range len(text) {
			want := int64(impl.ErrSum)
			if cut < 4 {
				want = impl.ErrShort
			}
			wantMsgCode(t, "cut short", impl.MsgRead(text[:cut]), want)
		}
		body := text[:len(text)-4]
		for cut := range len(body) {
			wantMsgCode(t, "cut short and sealed", impl.MsgRead(sealText(body[:cut])), impl.ErrSyntax)
		}
		for _, more := range []string{"\x00", "\x02", "\x80", "\x00\x00", body} {
			wantMsgCode(t, "more behind", impl.MsgRead(text+more), impl.ErrSum)
			wantMsgCode(t, "more behind, sealed", impl.MsgRead(sealText(body+more)), impl.ErrSyntax)
		}
		wantMsgCode(t, "sealed twice", impl.MsgRead(sealText(text)), impl.ErrSyntax)
		wantMsgCode(t, "more before", impl.MsgRead(sealText("\x00"+body)), impl.ErrSyntax)
	}
}

func TestMsgReadErrors(t *testing.T) {
	for _, text := range []string{"", "\x00", "\x00\x00\x00"} {
		wantMsgCode(t, "MsgRead of "+shown(text), impl.MsgRead(text), impl.ErrShort)
	}
	for _, text := range []string{"abcd", "\xff\xff\xff\xff", strings.Repeat("a", impl.MaxBytes), someText(impl.MaxBytes)} {
		wantMsgCode(t, "MsgRead of "+shown(text), impl.MsgRead(text), impl.ErrSum)
	}
	for _, body := range []string{"", "\x00", "zz", "\x80", "\x02\x02\x04\x06", "\x02\x02\x04\x06\x03", "\x02\x02\x04\x06\x02\x78\x04",
		strings.Repeat("\x00", impl.MaxBytes-4), strings.Repeat("\x02", impl.MaxBytes-4), someText(impl.MaxBytes - 4),
		"\x02\x02\x04\x06" + impl.PutText(strings.Repeat("k", 7000)) + "\x04\x00\x00",
		"\x02\x02\x04\x06" + impl.PutNum(impl.MaxBytes+1) + "x\x04\x00\x00", "\x02\x02\x04\x06" + impl.PutNum(-1) + "x\x04\x00\x00",
		"\x02\x02\x04\x06" + impl.PutNum(math.MaxInt64) + "x\x04\x00\x00"} {
		wantMsgCode(t, "MsgRead of the seal of "+shown(body), impl.MsgRead(sealText(body)), impl.ErrSyntax)
	}
	for _, text := range []string{strings.Repeat("a", impl.MaxBytes+1), sealText(someText(impl.MaxBytes - 3)),
		msgText(sampleMsgs()[0]) + strings.Repeat("\x00", impl.MaxBytes)} {
		wantMsgCode(t, "MsgRead of "+shown(text), impl.MsgRead(text), impl.ErrSize)
	}
}

// TestLongerNumbersOfMessagesAreRejected leaves out the numbers of Sets, which have a test of their own.
func TestLongerNumbersOfMessagesAreRejected(t *testing.T) {
	for _, m := range sampleMsgs() {
		for i := range msgParts(m) {
			parts := msgParts(m)
			if i == 5 || i == 7 {
				continue
			}
			last := len(parts[i]) - 1
			parts[i] = parts[i][:last] + string([]byte{parts[i][last] | 128, 0})
			wantMsgCode(t, "a longer number", impl.MsgRead(sealText(strings.Join(parts, ""))), impl.ErrSyntax)
		}
	}
}

// TestMsgReadOfAnyBytes changes encodings and seals them again; what is still accepted must be the encoding of a valid message.
func TestMsgReadOfAnyBytes(t *testing.T) {
	for _, m := range append(sampleMsgs(), someMsgs(60)...) {
		body := strings.Join(msgParts(m), "")
		for i := range body {
			for _, change := range []byte{1, 2, 3, 4, 6, 8, 10, 16, 32, 64, 128, 255} {
				b := []byte(body)
				b[i] ^= change
				text := sealText(string(b))
				got := impl.MsgRead(text)
				if got.Code == impl.OK && isMsg(got.Msg) && msgText(got.Msg) == text {
					continue
				}
				wantMsgCode(t, "MsgRead", got, impl.ErrSyntax)
			}
		}
	}
}

// turnOf answers as the document says it.
func turnOf(m impl.Msg, kind int64, set impl.Set) impl.MsgOut {
	answer := impl.Msg{Kind: kind, From: m.To, To: m.From, Req: m.Req, Key: m.Key, For: m.For, Set: set}
	if !isMsg(m) || !impl.SetRight(set) || !isMsg(answer) {
		return impl.MsgOut{Code: impl.ErrForm}
	}
	return impl.MsgOut{Msg: answer}
}

// answerSets has Sets with and without Seen and Sibs.
func answerSets() []impl.Set {
	return []impl.Set{{}, seenSet(3), nodeSet(4, 1), nodeSet(2, impl.MaxSibs), {Seen: []impl.Mark{}, Sibs: []impl.Sib{}}}
}

func TestMsgTurn(t *testing.T) {
	answered := map[[2]int64]bool{}
	for _, m := range append(sampleMsgs(), someMsgs(200)...) {
		for kind := int64(-1); kind <= 6; kind++ {
			for _, set := range answerSets() {
				got := impl.MsgTurn(m, kind, set)
				wantMsgOut(t, "MsgTurn", got, turnOf(m, kind, set))
				if got.Code == impl.OK {
					answered[[2]int64{m.Kind, kind}] = true
				}
			}
		}
	}
	if len(answered) != 16 {
		t.Errorf("%d of the 16 pairs of kinds", len(answered))
	}
}

func TestAnswersGoBack(t *testing.T) {
	m := impl.Msg{Kind: impl.MsRead, From: 1, To: 2, Req: 3, Key: "x", For: 5}
	told := impl.MsgTurn(m, impl.MsTold, nodeSet(1, 1))
	wantMsgOut(t, "to the sender", told, impl.MsgOut{Msg: impl.Msg{Kind: impl.MsTold, From: 2, To: 1, Req: 3, Key: "x", For: 5, Set: nodeSet(1, 1)}})
	keep := impl.MsgTurn(told.Msg, impl.MsKeep, nodeSet(1, 2))
	wantMsgOut(t, "to the receiver", keep, impl.MsgOut{Msg: impl.Msg{Kind: impl.MsKeep, From: 1, To: 2, Req: 3, Key: "x", For: 5, Set: nodeSet(1, 2)}})
	kept := impl.MsgTurn(keep.Msg, impl.MsKept, impl.Set{Seen: nodeSet(1, 2).Seen})
	wantMsgOut(t, "to the sender again", kept, impl.MsgOut{Msg: impl.Msg{Kind: impl.MsKept, From: 2, To: 1, Req: 3, Key: "x", For: 5, Set: impl.Set{Seen: nodeSet(1, 2).Seen}}})
	again := impl.MsgTurn(kept.Msg, impl.MsRead, impl.Set{})
	wantMsgOut(t, "to the receiver again", again, impl.MsgOut{Msg: m})
	for _, m := range someMsgs(300) {
		first := impl.MsgTurn(m, impl.MsKeep, nodeSet(3, 1))
		second := impl.MsgTurn(first.Msg, m.Kind, m.Set)
		wantMsgOut(t, "an answer to an answer", second, impl.MsgOut{Msg: m})
	}
}

// TestMsgTurnErrors has one thing wrong at a time, as far as possible.
func TestMsgTurnErrors(t *testing.T) {
	handoff := impl.Msg{Kind: impl.MsKeep, From: 1, To: 2, Key: "x", For: 2, Set: nodeSet(1, 1)}
	wantMsgCode(t, "a request of a handoff", impl.MsgTurn(handoff, impl.MsRead, impl.Set{}), impl.ErrForm)
	wantMsgCode(t, "an answer to a handoff", impl.MsgTurn(handoff, impl.MsTold, nodeSet(1, 1)), impl.ErrForm)
	wantMsgOut(t, "a confirmation of a handoff", impl.MsgTurn(handoff, impl.MsKept, seenSet(1)),
		impl.MsgOut{Msg: impl.Msg{Kind: impl.MsKept, From: 2, To: 1, Key: "x", For: 2, Set: seenSet(1)}})
	for _, m := range sampleMsgs() {
		for _, kind := range []int64{1, 2, 3, 4} {
			for _, set := range notSets() {
				if got := impl.MsgTurn(m, kind, set); got.Code != impl.ErrForm || !sameMsg(got.Msg, impl.Msg{}) {
					t.Errorf("MsgTurn to %d with an invalid Set: code %d", kind, got.Code)
				}
			}
		}
		for _, kind := range []int64{math.MinInt64, -1, 0, 5, 257, 1<<32 + 3, math.MaxInt64} {
			for _, set := range answerSets() {
				wantMsgCode(t, "unknown kind", impl.MsgTurn(m, kind, set), impl.ErrForm)
			}
		}
		wantMsgCode(t, "MsRead with a Set", impl.MsgTurn(m, impl.MsRead, seenSet(1)), impl.ErrForm)
		wantMsgCode(t, "MsKeep without a Set", impl.MsgTurn(m, impl.MsKeep, impl.Set{}), impl.ErrForm)
		wantMsgCode(t, "MsKept without Seen", impl.MsgTurn(m, impl.MsKept, impl.Set{}), impl.ErrForm)
		wantMsgCode(t, "MsKept with Sibs", impl.MsgTurn(m, impl.MsKept, nodeSet(1, 1)), impl.ErrForm)
	}
}

// wrongMsgs changes a valid message in one respect each, so that it is invalid.
func wrongMsgs(m impl.Msg) map[string]impl.Msg {
	l := map[string]impl.Msg{}
	with := func(what string, change func(m *impl.Msg)) {
		wrong := m
		change(&wrong)
		l[what] = wrong
	}
	with("kind 0", func(m *impl.Msg) { m.Kind = 0 })
	with("kind 5", func(m *impl.Msg) { m.Kind = 5 })
	with("From 0", func(m *impl.Msg) { m.From = 0 })
	with("From 6", func(m *impl.Msg) { m.From = 6 })
	with("To 0", func(m *impl.Msg) { m.To = 0 })
	with("To 6", func(m *impl.Msg) { m.To = 6 })
	with("For 0", func(m *impl.Msg) { m.For = 0 })
	with("For 6", func(m *impl.Msg) { m.For = 6 })
	with("Req -1", func(m *impl.Msg) { m.Req = -1 })
	with("late Req", func(m *impl.Msg) { m.Req = impl.MaxTime + 1 })
	with("empty Key", func(m *impl.Msg) { m.Key = "" })
	with("long Key", func(m *impl.Msg) { m.Key = strings.Repeat("k", 21) })
	with("longer Key", func(m *impl.Msg) { m.Key = strings.Repeat("k", impl.MaxBytes+1) })
	with("no dot", func(m *impl.Msg) { m.Set.Seen = []impl.Mark{{Node: 6, N: 1}} })
	with("unseen Sib", func(m *impl.Msg) { m.Set = impl.Set{Sibs: nodeSet(1, 1).Sibs} })
	with("too many Sibs", func(m *impl.Msg) { m.Set = nodeSet(1, impl.MaxSibs+1) })
	with("MsRead with a Set", func(m *impl.Msg) { m.Kind, m.Req, m.Set = impl.MsRead, 1, seenSet(1) })
	with("MsRead of a handoff", func(m *impl.Msg) { m.Kind, m.Req, m.Set = impl.MsRead, 0, impl.Set{} })
	with("MsTold of a handoff", func(m *impl.Msg) { m.Kind, m.Req = impl.MsTold, 0 })
	with("MsKeep without a Set", func(m *impl.Msg) { m.Kind, m.Set = impl.MsKeep, impl.Set{} })
	with("MsKept without Seen", func(m *impl.Msg) { m.Kind, m.Set = impl.MsKept, impl.Set{} })
	with("MsKept with Sibs", func(m *impl.Msg) { m.Kind, m.Set = impl.MsKept, nodeSet(1, 1) })
	return l
}

func TestMsgTurnOfInvalidMessages(t *testing.T) {
	for _, m := range sampleMsgs() {
		for what, wrong := range wrongMsgs(m) {
			for kind := int64(1); kind <= 4; kind++ {
				for _, set := range answerSets() {
					wantMsgCode(t, what, impl.MsgTurn(wrong, kind, set), impl.ErrForm)
				}
			}
		}
	}
}

func TestMessagesAreNewMemory(t *testing.T) {
	for kind := int64(2); kind <= 4; kind++ {
		old := impl.Set{Seen: counts{0, 0, 2, 0, 2}.marks(), Sibs: []impl.Sib{sibOf(2, 1), sibOf(4, 2)}}
		set := old
		if kind == impl.MsKept {
			set.Sibs = nil
		}
		m := impl.Msg{Kind: impl.MsKeep, From: 1, To: 2, Req: 3, Key: "x", For: 2, Set: roomy(old)}
		argument := roomy(set)
		got := impl.MsgTurn(m, kind, argument)
		want := turnOf(m, kind, copyOf(set))
		wantUntouched(t, "message", m.Set, old)
		wantUntouched(t, "Set", argument, set)
		spoil(m.Set)
		spoil(argument)
		wantMsgOut(t, "arguments spoiled", got, want)
		argument = roomy(set)
		m.Set = roomy(old)
		spoil(impl.MsgTurn(m, kind, argument).Msg.Set)
		wantUntouched(t, "message, result spoiled", m.Set, old)
		wantUntouched(t, "Set, result spoiled", argument, set)
	}
	for _, m := range sampleMsgs() {
		before := copyOf(m.Set)
		m.Set = roomy(m.Set)
		text := impl.MsgBytes(m)
		impl.MsgRight(m)
		wantUntouched(t, "MsgBytes", m.Set, before)
		first, second := impl.MsgRead(text), impl.MsgRead(text)
		spoil(first.Msg.Set)
		wantMsgOut(t, "MsgRead twice", second, impl.MsgOut{Msg: m})
	}
}
