package tests

import (
	"fmt"
	"math"
	"math/rand"
	"slices"
	"strings"
	"testing"

	"loop.example/g00659/impl"
)

// minting is a write by a client at a node.
type minting struct {
	key   string
	seen  []impl.Mark
	data  string
	gone  bool
	power int64
}

func (w minting) at(s impl.Store) impl.NodeOut {
	return impl.Mint(s, w.key, w.seen, w.data, w.gone, w.power)
}

func keptIn(s impl.Store, key string, who int64) impl.Set {
	at := itemAt(s, key, who)
	if at < 0 {
		return impl.Set{}
	}
	return s.Items[at].Set
}

// commitModel changes a valid store as the document says it: a power failure leaves the log as it was, or with the complete record.
func commitModel(s impl.Store, c change, power int64) (impl.Store, int64) {
	if power == 0 {
		return synced(s), impl.ErrDown
	}
	next, code := changed(s, c)
	if code != impl.OK {
		return impl.Store{}, code
	}
	switch size := int64(len(c.text())); {
	case power > 0 && power < size:
		return synced(s), impl.ErrDown
	case power == size:
		return synced(next), impl.ErrDown
	}
	return synced(next), impl.OK
}

// model writes as the document says it, for valid arguments.
func (w minting) model(s impl.Store) impl.NodeOut {
	if w.power == 0 {
		return impl.NodeOut{Store: synced(s), Code: impl.ErrDown}
	}
	made := putOf(keptIn(s, w.key, s.Node), w.seen, s.Node, w.data, w.gone)
	if made.Code != impl.OK {
		return impl.NodeOut{Code: made.Code}
	}
	next, code := commitModel(s, puts(w.key, s.Node, made.Set), w.power)
	if code != impl.OK {
		return impl.NodeOut{Store: next, Code: code}
	}
	return impl.NodeOut{Store: next, Set: made.Set, Dot: made.Dot}
}

// covered reports whether b has seen everything that a has.
func covered(a []impl.Mark, b []impl.Mark) bool {
	return !slices.ContainsFunc(a, func(m impl.Mark) bool { return !countsOf(b).has(m) })
}

// handleModel processes a valid message to the node of a valid store as the document says it.
func handleModel(s impl.Store, m impl.Msg, power int64) impl.NodeOut {
	if power == 0 {
		return impl.NodeOut{Store: synced(s), Code: impl.ErrDown}
	}
	answer := impl.Msg{From: m.To, To: m.From, Req: m.Req, Key: m.Key, For: m.For}
	switch {
	case m.Kind == 1:
		answer.Kind, answer.Set = 2, keptIn(s, m.Key, m.For)
		return impl.NodeOut{Store: s, Out: []impl.Msg{answer}}
	case m.Kind == 3:
		next, code := commitModel(s, puts(m.Key, m.For, m.Set), power)
		if code != impl.OK {
			return impl.NodeOut{Store: next, Code: code}
		}
		answer.Kind, answer.Set.Seen = 4, keptIn(next, m.Key, m.For).Seen
		return impl.NodeOut{Store: next, Out: []impl.Msg{answer}}
	case m.Kind == 4 && m.Req == 0 && m.From == m.For && m.For != s.Node && itemAt(s, m.Key, m.For) >= 0:
		if covered(keptIn(s, m.Key, m.For).Seen, m.Set.Seen) {
			next, code := commitModel(s, drops(m.Key, m.For), power)
			return impl.NodeOut{Store: next, Code: code}
		}
	}
	return impl.NodeOut{Store: s}
}

func packedText(s impl.Store) string {
	text := ""
	for _, x := range s.Items {
		text += puts(x.Key, x.For, x.Set).text()
	}
	return text
}

// packModel compacts the log of a valid store as the document says it.
func packModel(s impl.Store, power int64) impl.StoreOut {
	log := packedText(s)
	if power != -1 && power <= int64(len(log)) {
		return impl.StoreOut{Store: synced(s), Code: impl.ErrDown}
	}
	s.Log = log
	return impl.StoreOut{Store: synced(s)}
}

func handModel(s impl.Store, nodes int64) []impl.Msg {
	var l []impl.Msg
	for _, x := range s.Items {
		if x.For != s.Node && x.For <= nodes {
			l = append(l, impl.Msg{Kind: 3, From: s.Node, To: x.For, Key: x.Key, For: x.For, Set: x.Set})
		}
	}
	return l
}

func nodeText(out impl.NodeOut) string {
	s := out.Store
	return fmt.Sprintf("code %d, dot %v, Set %v, out %v, node %d, items %v, log %s of %d bytes, synced %d",
		out.Code, out.Dot, out.Set, out.Out, s.Node, s.Items, shown(s.Log), len(s.Log), s.Synced)
}

func wantNode(t *testing.T, what string, got impl.NodeOut, want impl.NodeOut) {
	t.Helper()
	if got.Code != want.Code || got.Dot != want.Dot || !sameSet(got.Set, want.Set) ||
		!slices.EqualFunc(got.Out, want.Out, sameMsg) || !sameStore(got.Store, want.Store) {
		t.Errorf("%s: got %s, want %s", what, nodeText(got), nodeText(want))
	}
}

func wantNodeCode(t *testing.T, what string, got impl.NodeOut, code int64) {
	t.Helper()
	wantNode(t, what, got, impl.NodeOut{Code: code})
}

func wantMsgs(t *testing.T, what string, got []impl.Msg, want []impl.Msg) {
	t.Helper()
	if !slices.EqualFunc(got, want, sameMsg) {
		t.Errorf("%s: got %v, want %v", what, got, want)
	}
}

// powersAround has every power up to a bit more than a record of so many bytes, and some beyond.
func powersAround(size int) []int64 {
	l := []int64{-1, impl.MaxBytes, impl.MaxPower - 1, impl.MaxPower}
	for power := range int64(size) + 3 {
		l = append(l, power)
	}
	return l
}

func wrongPowers() []int64 {
	return []int64{-2, -3, -impl.MaxPower, impl.MaxPower + 1, 2 * impl.MaxPower, 1 << 32, 1<<32 - 1, -1 << 32, 1<<32 + 5, math.MinInt64, math.MaxInt64}
}

// someStores has valid stores of node 2 with and without items, with parts of the log synced, and with full logs.
func someStores(t *testing.T) map[string]impl.Store {
	t.Helper()
	some := sampleStore(t)
	some.Synced = int64(len(logText(sampleChanges()[:5])))
	packed := storeOf(t, 2, puts("car", 2, nodeSet(4, 2)), puts("cart", 2, oneSet(1, "x")), puts("cart", 3, nodeSet(2, 2)))
	return map[string]impl.Store{
		"empty": {Node: 2}, "unsynced": sampleStore(t), "synced": synced(sampleStore(t)), "partly synced": some, "packed": packed,
		"emptied": storeOf(t, 2, puts("cart", 2, oneSet(1, "x")), drops("cart", 2)),
		"full":    filled(t, storeOf(t, 2, puts("cart", 2, oneSet(1, "x")), puts("cart", 4, nodeSet(2, 2))), impl.MaxBytes),
		"roomy":   filled(t, impl.Store{Node: 2}, impl.MaxBytes-60),
		"many":    storeOf(t, 2, append(manyItems(2, impl.MaxItems), manyItems(5, impl.MaxHints)...)...),
	}
}

func TestNodeExamples(t *testing.T) {
	if impl.MaxPower != 10000 {
		t.Errorf("MaxPower is %d", impl.MaxPower)
	}
	set := impl.Set{Seen: []impl.Mark{{Node: 1, N: 1}}, Sibs: []impl.Sib{{Dot: impl.Mark{Node: 1, N: 1}, Data: "v"}}}
	log := recordText("\x02\x02\x02x\x12\x02\x02\x02\x02\x02\x02\x00\x02v")
	if len(log) != 19 {
		t.Fatalf("a record of %d bytes", len(log))
	}
	written := impl.Store{Node: 1, Items: []impl.Item{{Key: "x", For: 1, Set: set}}, Log: log, Synced: 19}
	for power, want := range map[int64]impl.NodeOut{
		-1: {Store: written, Set: set, Dot: impl.Mark{Node: 1, N: 1}},
		0:  {Store: impl.Store{Node: 1}, Code: impl.ErrDown},
		5:  {Store: impl.Store{Node: 1}, Code: impl.ErrDown},
		18: {Store: impl.Store{Node: 1}, Code: impl.ErrDown},
		19: {Store: written, Code: impl.ErrDown},
		20: {Store: written, Set: set, Dot: impl.Mark{Node: 1, N: 1}},
	} {
		wantNode(t, fmt.Sprint("power ", power), impl.Mint(impl.Store{Node: 1}, "x", nil, "v", false, power), want)
	}
}

// Promise 15.

// someMints have contexts of all sorts, at new and old keys.
func someMints() []minting {
	return []minting{
		{key: "cart", data: "new"}, {key: "cart", seen: counts{0, 1}.marks(), data: someText(16)},
		{key: "cart", seen: counts{0, 1, 9, 0, 1}.marks(), data: ""}, {key: "cart", seen: counts{0, 9, 9, 9, 9, 9}.marks(), gone: true},
		{key: "zz", data: "first"}, {key: "zz", seen: counts{0, 0, 64}.marks(), gone: true}, {key: "z_9", data: "beside a hint"},
		{key: strings.Repeat("k", 20), seen: []impl.Mark{}, data: "\x00\xff"}, {key: "ka", seen: counts{0, 1}.marks(), data: "over"},
		{key: "a", seen: longestSeen()[:1], data: "late"},
	}
}

func TestMintAtEachPower(t *testing.T) {
	codes := map[int64]int{}
	for what, s := range someStores(t) {
		for _, w := range someMints() {
			record := puts(w.key, s.Node, putOf(keptIn(s, w.key, s.Node), w.seen, s.Node, w.data, w.gone).Set).text()
			for _, power := range powersAround(len(record)) {
				w.power = power
				got := w.at(s)
				wantNode(t, fmt.Sprint(what, ", ", w), got, w.model(s))
				codes[got.Code]++
			}
		}
	}
	if len(codes) != 3 || codes[impl.OK] < 100 || codes[impl.ErrDown] < 1000 || codes[impl.ErrFull] < 100 {
		t.Errorf("codes: %v", codes)
	}
}

// TestMintsAreKeptOrNot is promise 15 by itself: no model of what the record is.
func TestMintsAreKeptOrNot(t *testing.T) {
	for what, s := range someStores(t) {
		for _, w := range someMints() {
			w.power = -1
			good := w.at(s)
			if good.Code != impl.OK {
				continue
			}
			known := impl.StoreOf(s, w.key, s.Node)
			if impl.SeenHas(known.Seen, good.Dot) || impl.SeenHas(w.seen, good.Dot) || good.Dot.Node != s.Node {
				t.Errorf("%s, %v: the dot %v was known", what, w, good.Dot)
			}
			if !impl.SetHas(good.Set, good.Dot) || !sameSet(impl.StoreOf(good.Store, w.key, s.Node), good.Set) || !impl.StoreRight(good.Store) {
				t.Errorf("%s, %v: %s", what, w, nodeText(good))
			}
			wantStore(t, what+": what survives", impl.StoreCrash(good.Store, 0), good.Store)
			kept := 0
			for w.power = 0; w.at(s).Code == impl.ErrDown; w.power++ {
				got := w.at(s)
				wantStoreOut(t, what, impl.Recover(s.Node, got.Store.Log), impl.StoreOut{Store: got.Store})
				if sameStore(got.Store, good.Store) {
					kept++
				} else if !sameStore(got.Store, synced(s)) {
					t.Errorf("%s, %v: %s", what, w, nodeText(got))
				}
			}
			if size := int64(len(good.Store.Log) - len(s.Log)); kept != 1 || w.power != size+1 {
				t.Errorf("%s, %v: kept at %d powers, and written with %d of %d bytes", what, w, kept, w.power, size)
			}
			wantNode(t, what+": first power that suffices", w.at(s), good)
		}
	}
}

// TestMintsOfAnySet has every sort of Set and of context.
func TestMintsOfAnySet(t *testing.T) {
	contexts := append(someCounts(), counts{})
	codes := map[int64]int{}
	for i, set := range someSets() {
		if len(set.Seen) == 0 {
			continue
		}
		node := int64(i%impl.MaxNodes + 1)
		// The hint must not count as what the node keeps for itself.
		s := storeOf(t, node, puts("x", node%impl.MaxNodes+1, nodeSet(node, 7)), puts("x", node, set))
		for j, c := range contexts {
			if (i+j)%5 > 0 {
				continue
			}
			w := minting{key: "x", seen: c.marks(), data: someText(j % 17), gone: j%17 == 0 && i%2 == 0, power: []int64{-1, impl.MaxPower, 0, 9, 1}[(i+j)/5%5]}
			got := w.at(s)
			wantNode(t, fmt.Sprint("Mint ", w), got, w.model(s))
			if codes[got.Code]++; got.Code == impl.OK {
				wantWritten(t, set, w.seen, impl.SetOut{Set: got.Set, Dot: got.Dot})
			}
		}
	}
	if codes[impl.OK] < 100 || codes[impl.ErrDown] < 100 || codes[impl.ErrFull] < 10 {
		t.Errorf("codes: %v", codes)
	}
}

// TestMintsInARow: behind any failures a dot that is known is not used again.
func TestMintsInARow(t *testing.T) {
	r := rand.New(rand.NewSource(15))
	for node := int64(1); node <= impl.MaxNodes; node++ {
		s := impl.Store{Node: node}
		last := int64(0)
		for i := range 40 {
			w := minting{key: "x", seen: impl.StoreOf(s, "x", node).Seen, data: fmt.Sprint(i), power: r.Int63n(40) - 1}
			got := w.at(s)
			wantNode(t, "in a row", got, w.model(s))
			if got.Code == impl.OK && got.Dot != (impl.Mark{Node: node, N: last + 1}) {
				t.Errorf("dot %v behind %d", got.Dot, last)
			}
			s, last = got.Store, impl.SeenOf(impl.StoreOf(got.Store, "x", node).Seen, node)
		}
		if last < 10 || len(impl.StoreOf(s, "x", node).Sibs) != 1 {
			t.Errorf("%d writes, of which are left %v", last, s.Items)
		}
	}
}

// wrongMints are invalid for one reason each.
func wrongMints() map[string]minting {
	l := map[string]minting{
		"long data":          {key: "cart", data: someText(impl.MaxData + 1)},
		"longest data":       {key: "cart", data: someText(impl.MaxBytes)},
		"gone with data":     {key: "cart", data: "x", gone: true},
		"gone with a zero":   {key: "cart", data: "\x00", gone: true},
		"gone with all data": {key: "cart", data: someText(impl.MaxData), gone: true},
	}
	for _, key := range append(notNames(), strings.Repeat("k", impl.MaxBytes)) {
		l["key "+shown(key)] = minting{key: key, data: "x"}
	}
	for i, seen := range wrongSeen() {
		if len(seen) <= impl.MaxList {
			l[fmt.Sprint("seen ", i)] = minting{key: "cart", seen: seen, data: "x"}
		}
	}
	return l
}

func TestMintForm(t *testing.T) {
	powers := []int64{-1, 0, 1, 5, 19, 40, impl.MaxPower}
	for _, s := range someStores(t) {
		for what, w := range wrongMints() {
			for _, w.power = range append(powers, wrongPowers()...) {
				wantNodeCode(t, what, w.at(s), impl.ErrForm)
			}
		}
		for _, power := range wrongPowers() {
			for _, w := range someMints() {
				w.power = power
				wantNodeCode(t, fmt.Sprint("power ", power), w.at(s), impl.ErrForm)
			}
		}
	}
	for what, s := range notStores(t) {
		for _, power := range append(powers, wrongPowers()...) {
			for _, w := range []minting{{key: "cart", data: "x"}, {key: "zz", data: "x"}, {key: "Z", data: "x"}} {
				w.power = power
				wantNodeCode(t, what, w.at(s), impl.ErrForm)
			}
		}
	}
}

// longMints have an argument beyond the size limits, beside others that are right or wrong.
func longMints() map[string]minting {
	long := strings.Repeat("k", impl.MaxBytes+1)
	l := map[string]minting{
		"long key": {key: long, data: "x"}, "long data": {key: "cart", data: long}, "long and gone": {key: "cart", data: long, gone: true},
		"long key and data": {key: long, data: long}, "long key, wrong data": {key: long, data: "x", gone: true}, "wrong key, long data": {key: "Z", data: long},
	}
	for i, seen := range tooLong() {
		l[fmt.Sprint("long seen ", i)] = minting{key: "cart", seen: seen, data: "x"}
		l[fmt.Sprint("long seen, wrong key ", i)] = minting{key: "", seen: seen, data: "x", gone: true}
	}
	return l
}

func TestMintSizes(t *testing.T) {
	for what, w := range longMints() {
		for _, w.power = range []int64{-1, 0, 1, 5, impl.MaxPower, impl.MaxPower + 1, -2} {
			for _, s := range []impl.Store{{Node: 2}, {}, sampleStore(t), {Node: 2, Log: "x"}} {
				wantNodeCode(t, what, w.at(s), impl.ErrSize)
			}
		}
	}
}

// TestMintFull: what is full comes before the power that fails later, and behind no power at all.
func TestMintFull(t *testing.T) {
	key := strings.Repeat("k", 20)
	for what, c := range map[string]struct {
		s impl.Store
		w minting
	}{
		"siblings":         {storeOf(t, 2, puts("cart", 2, nodeSet(3, impl.MaxSibs))), minting{key: "cart", data: "x"}},
		"time":             {storeOf(t, 2, puts("cart", 2, impl.Set{Seen: counts{0, 0, impl.MaxTime}.marks()})), minting{key: "cart", data: "x"}},
		"time of a reader": {storeOf(t, 2), minting{key: "cart", seen: counts{0, 0, impl.MaxTime}.marks(), gone: true}},
		"items":            {storeOf(t, 2, manyItems(2, impl.MaxItems)...), minting{key: "cart", data: "x"}},
		"items and hints":  {storeOf(t, 2, append(manyItems(2, impl.MaxItems), manyItems(1, impl.MaxHints)...)...), minting{key: "cart", data: "x"}},
		"log":              {filled(t, impl.Store{Node: 2}, impl.MaxBytes), minting{key: key, data: "x"}},
		"log but for one":  {filled(t, impl.Store{Node: 2}, impl.MaxBytes-18), minting{key: "x", data: "v"}},
	} {
		for _, power := range []int64{-1, 1, 5, 18, 19, 20, 40, impl.MaxPower} {
			c.w.power = power
			wantNodeCode(t, fmt.Sprint(what, ", power ", power), c.w.at(c.s), impl.ErrFull)
		}
		c.w.power = 0
		wantNode(t, what+", no power", c.w.at(c.s), impl.NodeOut{Store: synced(c.s), Code: impl.ErrDown})
		c.w.power = impl.MaxPower + 1
		wantNodeCode(t, what+", wrong power", c.w.at(c.s), impl.ErrForm)
	}
}

// TestMintsAtTheLimits are no more than what fits.
func TestMintsAtTheLimits(t *testing.T) {
	for what, c := range map[string]struct {
		s impl.Store
		w minting
	}{
		"siblings":      {storeOf(t, 2, puts("cart", 2, nodeSet(3, impl.MaxSibs-1))), minting{key: "cart", data: "x"}},
		"over siblings": {storeOf(t, 2, puts("cart", 2, nodeSet(3, impl.MaxSibs))), minting{key: "cart", seen: counts{0, 0, 0, 1}.marks(), data: "x"}},
		"time":          {storeOf(t, 2, puts("cart", 2, impl.Set{Seen: counts{0, 0, impl.MaxTime - 1}.marks()})), minting{key: "cart", data: "x"}},
		"items":         {storeOf(t, 2, manyItems(2, impl.MaxItems-1)...), minting{key: "cart", data: "x"}},
		"old item":      {storeOf(t, 2, manyItems(2, impl.MaxItems)...), minting{key: "kc", data: "x"}},
		"hints":         {storeOf(t, 2, manyItems(3, impl.MaxHints)...), minting{key: "ka", data: "x"}},
		"log":           {filled(t, impl.Store{Node: 2}, impl.MaxBytes-19), minting{key: "x", data: "v"}},
	} {
		for _, power := range append(powersAround(60), 100, 200) {
			c.w.power = power
			wantNode(t, fmt.Sprint(what, ", power ", power), c.w.at(c.s), c.w.model(c.s))
		}
		c.w.power = -1
		if got := c.w.at(c.s); got.Code != impl.OK {
			t.Errorf("%s: code %d", what, got.Code)
		}
	}
}

// TestMintErrorOrder has writes with several errors, from the last one to be found to the first.
func TestMintErrorOrder(t *testing.T) {
	small, full := impl.Store{Node: 2}, filled(t, impl.Store{Node: 2}, impl.MaxBytes)
	long := strings.Repeat("k", impl.MaxBytes+1)
	late := counts{0, 0, impl.MaxTime}.marks()
	for i, c := range []struct {
		s    impl.Store
		w    minting
		code int64
	}{
		{small, minting{key: "x", data: "v", power: -1}, impl.OK}, {small, minting{key: "x", data: "v", power: 19}, impl.ErrDown},
		{full, minting{key: "x", data: "v", power: 19}, impl.ErrFull}, {full, minting{key: "x", seen: late, data: "v", power: 19}, impl.ErrFull},
		{small, minting{key: "x", seen: late, data: "v", power: 5}, impl.ErrFull}, {full, minting{key: "x", seen: late, data: "v"}, impl.ErrDown},
		{full, minting{key: "x", data: "v"}, impl.ErrDown}, {full, minting{key: "x", data: "v", gone: true}, impl.ErrForm},
		{full, minting{key: "x", seen: []impl.Mark{{}}, data: "v"}, impl.ErrForm}, {full, minting{key: "X", data: "v"}, impl.ErrForm},
		{full, minting{key: "x", data: "v", power: -2}, impl.ErrForm}, {impl.Store{}, minting{key: "x", data: "v"}, impl.ErrForm},
		{impl.Store{}, minting{key: long, data: "v"}, impl.ErrSize}, {full, minting{key: "X", data: long, power: -2}, impl.ErrSize},
	} {
		want := c.w.model(c.s)
		if c.code == impl.ErrForm || c.code == impl.ErrSize {
			want = impl.NodeOut{Code: c.code}
		}
		if want.Code != c.code {
			t.Fatalf("order of errors %d: the model has code %d", i, want.Code)
		}
		wantNode(t, fmt.Sprint("order of errors ", i), c.w.at(c.s), want)
	}
}

// Promise 16.

// msgsTo has messages of all kinds to a node, about items that it has and others.
func msgsTo(node int64) []impl.Msg {
	var l []impl.Msg
	seens := [][]impl.Mark{counts{0, 1}.marks(), counts{0, 9, 9, 9, 9, 9}.marks(), counts{0, 0, 2}.marks(), counts{0, 0, 1}.marks()}
	for _, key := range []string{"cart", "zz", "ka"} {
		for from := int64(1); from <= 3; from++ {
			for who := int64(1); who <= 5; who++ {
				for _, req := range []int64{0, 1} {
					for _, seen := range seens {
						l = append(l, impl.Msg{Kind: impl.MsKept, From: from, To: node, Req: req, Key: key, For: who, Set: impl.Set{Seen: seen}})
					}
					l = append(l, impl.Msg{Kind: impl.MsKeep, From: from, To: node, Req: req, Key: key, For: who, Set: nodeSet(who, 2+from)})
				}
				l = append(l, impl.Msg{Kind: impl.MsRead, From: from, To: node, Req: from, Key: key, For: who},
					impl.Msg{Kind: impl.MsTold, From: from, To: node, Req: from, Key: key, For: who, Set: nodeSet(from, 1)})
			}
		}
	}
	return append(l, impl.Msg{Kind: impl.MsKept, From: 5, To: node, Key: "cart", For: 5, Set: impl.Set{Seen: seens[1]}},
		impl.Msg{Kind: impl.MsKept, From: 4, To: node, Key: "cart", For: 4, Set: impl.Set{Seen: seens[2]}})
}

func TestHandleEachKind(t *testing.T) {
	codes, changes := map[int64]int{}, map[int64]int{}
	for what, s := range someStores(t) {
		for _, m := range msgsTo(2) {
			for _, power := range []int64{-1, 0, 1, 7, impl.MaxPower} {
				got := impl.Handle(s, m, power)
				wantNode(t, fmt.Sprint(what, ", power ", power, ", ", m), got, handleModel(s, m, power))
				if codes[got.Code]++; got.Code == impl.OK && !sameStore(got.Store, s) {
					changes[m.Kind]++
				}
			}
		}
	}
	if len(codes) != 3 || codes[impl.OK] < 1000 || codes[impl.ErrDown] < 1000 || codes[impl.ErrFull] < 50 {
		t.Errorf("codes: %v", codes)
	}
	if len(changes) != 2 || changes[impl.MsKeep] < 100 || changes[impl.MsKept] < 10 {
		t.Errorf("changes by kind: %v", changes)
	}
}

func TestHandleAtEachPower(t *testing.T) {
	keep := impl.Msg{Kind: impl.MsKeep, From: 1, To: 2, Req: 1, Key: "cart", For: 2, Set: nodeSet(3, 2)}
	hint, late, other := keep, keep, keep
	hint.For, hint.Req, late.Key, other.From = 3, 0, "zz", 2
	kept := impl.Msg{Kind: impl.MsKept, From: 3, To: 2, Key: "cart", For: 3, Set: impl.Set{Seen: counts{0, 9, 9, 9}.marks()}}
	asked := kept
	asked.Req = 1
	read := impl.Msg{Kind: impl.MsRead, From: 1, To: 2, Req: 8, Key: "cart", For: 3}
	told := impl.Msg{Kind: impl.MsTold, From: 1, To: 2, Req: 8, Key: "cart", For: 3, Set: nodeSet(1, 1)}
	for what, s := range someStores(t) {
		for _, m := range []impl.Msg{keep, hint, late, other, kept, asked, read, told} {
			for _, power := range powersAround(120) {
				wantNode(t, fmt.Sprint(what, ", power ", power, ", ", m), impl.Handle(s, m, power), handleModel(s, m, power))
			}
		}
	}
}

// TestHandleAnyMessage has stores of all nodes that have kept some of the messages before.
func TestHandleAnyMessage(t *testing.T) {
	r := rand.New(rand.NewSource(16))
	codes := map[int64]int{}
	stores := map[int64]impl.Store{}
	for i, m := range someMsgs(1500) {
		m.To = int64(i%impl.MaxNodes + 1)
		if r.Intn(2) == 0 {
			m.From = m.For
		}
		m.Key = []string{"a", "b", "c", m.Key}[r.Intn(4)]
		s := stores[m.To]
		s.Node = m.To
		power := []int64{-1, -1, -1, impl.MaxPower, 0, 1, r.Int63n(60), r.Int63n(60)}[r.Intn(8)]
		got := impl.Handle(s, m, power)
		wantNode(t, fmt.Sprint("power ", power, ", ", m), got, handleModel(s, m, power))
		if codes[got.Code]++; got.Code == impl.OK || got.Code == impl.ErrDown {
			wantWhatTheLogYields(t, got.Store)
			stores[m.To] = got.Store
		} else if got.Code == impl.ErrFull {
			stores[m.To] = impl.Store{}
		}
	}
	if len(codes) != 3 || codes[impl.OK] < 500 || codes[impl.ErrDown] < 100 || codes[impl.ErrFull] < 20 {
		t.Errorf("codes: %v", codes)
	}
}

// TestKeptAndConfirmed is promise 16 by itself.
func TestKeptAndConfirmed(t *testing.T) {
	for what, s := range someStores(t) {
		for _, m := range msgsTo(2) {
			first := impl.Handle(s, m, -1)
			if m.Kind != impl.MsKeep || first.Code != impl.OK {
				continue
			}
			kept := impl.StoreOf(first.Store, m.Key, m.For)
			old := impl.StoreOf(s, m.Key, m.For)
			if want := impl.SetSync(old, m.Set); !sameSet(kept, want.Set) || !impl.SeenLess(m.Set.Seen, kept.Seen) {
				t.Errorf("%s, %v: kept %v", what, m, kept)
			}
			wantStore(t, what+": what survives", impl.StoreCrash(first.Store, 0), first.Store)
			wantMsgs(t, what+": confirmation", first.Out, []impl.Msg{{Kind: impl.MsKept, From: 2, To: m.From, Req: m.Req, Key: m.Key, For: m.For, Set: impl.Set{Seen: kept.Seen}}})
			second := impl.Handle(first.Store, m, -1)
			if second.Code == impl.ErrFull {
				continue
			}
			if second.Code != impl.OK || !slices.EqualFunc(second.Store.Items, first.Store.Items, sameItem) {
				t.Errorf("%s, %v: asked twice: %s", what, m, nodeText(second))
			}
			wantMsgs(t, what+": second confirmation", second.Out, first.Out)
		}
	}
}

// TestKeepOrNot: whenever the power fails, the node has its previous data or what it was asked to keep.
func TestKeepOrNot(t *testing.T) {
	for what, s := range someStores(t) {
		for _, m := range msgsTo(2) {
			good := impl.Handle(s, m, -1)
			if good.Code != impl.OK || sameStore(good.Store, s) {
				continue
			}
			size, kept := int64(len(good.Store.Log)-len(s.Log)), 0
			for power := range size + 1 {
				got := impl.Handle(s, m, power)
				if got.Code != impl.ErrDown || len(got.Out) > 0 {
					t.Errorf("%s, %v, power %d: %s", what, m, power, nodeText(got))
				}
				if sameStore(got.Store, good.Store) {
					kept++
				} else if !sameStore(got.Store, synced(s)) {
					t.Errorf("%s, %v, power %d: %s", what, m, power, nodeText(got))
				}
			}
			if kept != 1 {
				t.Errorf("%s, %v: kept at %d powers", what, m, kept)
			}
			wantNode(t, what+": first power that suffices", impl.Handle(s, m, size+1), good)
		}
	}
}

// TestHandoffConfirmed has each condition on which a hint is dropped, alone not met.
func TestHandoffConfirmed(t *testing.T) {
	hint := impl.Set{Seen: counts{0, 2, 3}.marks(), Sibs: []impl.Sib{sibOf(1, 2)}}
	s := storeOf(t, 2, puts("cart", 3, hint), puts("cart", 2, oneSet(1, "x")), puts("cart", 4, nodeSet(1, 1)), puts("car", 3, nodeSet(1, 1)))
	s.Synced = int64(len(puts("cart", 3, hint).text()))
	kept := func(from int64, req int64, key string, who int64, seen counts) impl.Msg {
		return impl.Msg{Kind: impl.MsKept, From: from, To: 2, Req: req, Key: key, For: who, Set: impl.Set{Seen: seen.marks()}}
	}
	for what, m := range map[string]impl.Msg{
		"equal": kept(3, 0, "cart", 3, counts{0, 2, 3}), "more": kept(3, 0, "cart", 3, counts{0, 2, 3, 1}),
		"later": kept(3, 0, "cart", 3, counts{0, 9, 3}), "all": kept(3, 0, "cart", 3, counts{0, 9, 9, 9, 9, impl.MaxTime}),
	} {
		want, _ := changed(s, drops("cart", 3))
		wantNode(t, what, impl.Handle(s, m, -1), impl.NodeOut{Store: synced(want)})
		wantNode(t, what+" again", impl.Handle(synced(want), m, -1), impl.NodeOut{Store: synced(want)})
	}
	for what, m := range map[string]impl.Msg{
		"earlier": kept(3, 0, "cart", 3, counts{0, 2, 2}), "less": kept(3, 0, "cart", 3, counts{0, 2}), "one node": kept(3, 0, "cart", 3, counts{0, 0, 3}),
		"neither": kept(3, 0, "cart", 3, counts{0, 1, 9, 9}), "others": kept(3, 0, "cart", 3, counts{0, 0, 0, 9, 9}),
		"of a request": kept(3, 1, "cart", 3, counts{0, 9, 9}), "of the last request": kept(3, impl.MaxTime, "cart", 3, counts{0, 9, 9}),
		"from another": kept(1, 0, "cart", 3, counts{0, 9, 9}), "from another owner": kept(4, 0, "cart", 3, counts{0, 9, 9}),
		"from the node": kept(2, 0, "cart", 3, counts{0, 9, 9}), "for another": kept(3, 0, "cart", 4, counts{0, 9, 9}),
		"for the node": kept(3, 0, "cart", 2, counts{0, 9, 9}), "for the node from it": kept(2, 0, "cart", 2, counts{0, 9, 9}),
		"no such key": kept(3, 0, "care", 3, counts{0, 9, 9}), "no such hint": kept(5, 0, "cart", 5, counts{0, 9, 9}),
	} {
		for _, power := range []int64{-1, 1, 5, 16, 17, impl.MaxPower} {
			wantNode(t, what, impl.Handle(s, m, power), impl.NodeOut{Store: s})
		}
		wantNode(t, what+", no power", impl.Handle(s, m, 0), impl.NodeOut{Store: synced(s), Code: impl.ErrDown})
	}
}

// TestHandleOfItself has messages of a node to itself.
func TestHandleOfItself(t *testing.T) {
	s := storeOf(t, 3, puts("x", 3, nodeSet(1, 1)), puts("x", 4, nodeSet(2, 1)))
	keep := impl.Msg{Kind: impl.MsKeep, From: 3, To: 3, Req: 2, Key: "x", For: 3, Set: nodeSet(2, 2)}
	next := synced(storeOf(t, 3, puts("x", 3, nodeSet(1, 1)), puts("x", 4, nodeSet(2, 1)), puts("x", 3, nodeSet(2, 2))))
	wantNode(t, "MsKeep", impl.Handle(s, keep, -1), impl.NodeOut{Store: next,
		Out: []impl.Msg{{Kind: impl.MsKept, From: 3, To: 3, Req: 2, Key: "x", For: 3, Set: impl.Set{Seen: counts{0, 1, 2}.marks()}}}})
	read := impl.Msg{Kind: impl.MsRead, From: 3, To: 3, Req: 2, Key: "x", For: 4}
	wantNode(t, "MsRead", impl.Handle(s, read, -1), impl.NodeOut{Store: s,
		Out: []impl.Msg{{Kind: impl.MsTold, From: 3, To: 3, Req: 2, Key: "x", For: 4, Set: nodeSet(2, 1)}}})
	kept := impl.Msg{Kind: impl.MsKept, From: 3, To: 3, Key: "x", For: 3, Set: impl.Set{Seen: counts{0, 9, 9}.marks()}}
	wantNode(t, "MsKept", impl.Handle(s, kept, -1), impl.NodeOut{Store: s})
}

func TestHandleReads(t *testing.T) {
	s := sampleStore(t)
	for _, key := range append(someKeys(), "cart", "car", "z_9", "a", strings.Repeat("k", 20)) {
		for who := int64(1); who <= impl.MaxNodes; who++ {
			m := impl.Msg{Kind: impl.MsRead, From: 4, To: 2, Req: 64, Key: key, For: who}
			told := impl.Msg{Kind: impl.MsTold, From: 2, To: 4, Req: 64, Key: key, For: who, Set: impl.StoreOf(s, key, who)}
			for _, power := range []int64{-1, 1, 2, impl.MaxPower} {
				wantNode(t, "MsRead", impl.Handle(s, m, power), impl.NodeOut{Store: s, Out: []impl.Msg{told}})
			}
		}
	}
}

func TestHandleForm(t *testing.T) {
	powers := []int64{-1, 0, 1, 19, impl.MaxPower}
	msgs := []impl.Msg{msgsTo(2)[0]}
	for _, m := range sampleMsgs() {
		m.To = 2
		msgs = append(msgs, m)
	}
	for _, s := range someStores(t) {
		for _, m := range msgs {
			for _, power := range wrongPowers() {
				wantNodeCode(t, fmt.Sprint("power ", power), impl.Handle(s, m, power), impl.ErrForm)
			}
			for _, power := range powers {
				for _, to := range append(wrongNodes(), 1, 3, 4, 5) {
					other := m
					other.To = to
					wantNodeCode(t, "to another", impl.Handle(s, other, power), impl.ErrForm)
				}
				for what, wrong := range wrongMsgs(m) {
					wantNodeCode(t, what, impl.Handle(s, wrong, power), impl.ErrForm)
				}
			}
		}
	}
	for what, s := range notStores(t) {
		for _, m := range msgs {
			m.To = s.Node
			for _, power := range append(powers, -2) {
				wantNodeCode(t, what, impl.Handle(s, m, power), impl.ErrForm)
			}
		}
	}
}

// TestHandleFull: what is full comes before the power that fails later, and behind no power at all.
func TestHandleFull(t *testing.T) {
	a, b := overfull()
	keep := func(key string, who int64, set impl.Set) impl.Msg {
		return impl.Msg{Kind: impl.MsKeep, From: 1, To: 2, Req: 1, Key: key, For: who, Set: set}
	}
	kept := impl.Msg{Kind: impl.MsKept, From: 4, To: 2, Key: "cart", For: 4, Set: impl.Set{Seen: counts{0, 9}.marks()}}
	many := storeOf(t, 2, append(manyItems(2, impl.MaxItems), manyItems(3, impl.MaxHints)...)...)
	hint := storeOf(t, 2, puts("cart", 4, oneSet(1, "x")))
	room := impl.MaxBytes - len(drops("cart", 4).text())
	for what, c := range map[string]struct {
		s impl.Store
		m impl.Msg
	}{
		"siblings":           {storeOf(t, 2, puts("cart", 2, a)), keep("cart", 2, b)},
		"siblings of a hint": {storeOf(t, 2, puts("cart", 3, b)), keep("cart", 3, a)},
		"items":              {many, keep("zz", 2, a)}, "hints": {many, keep("zz", 3, a)}, "other hints": {many, keep("ka", 4, a)},
		"log":          {filled(t, hint, impl.MaxBytes), keep("cart", 4, a)},
		"log, dropped": {filled(t, hint, impl.MaxBytes), kept}, "log but for one": {filled(t, hint, room+1), kept},
	} {
		for _, power := range []int64{-1, 1, 5, 17, 40, impl.MaxPower} {
			wantNodeCode(t, fmt.Sprint(what, ", power ", power), impl.Handle(c.s, c.m, power), impl.ErrFull)
		}
		wantNode(t, what+", no power", impl.Handle(c.s, c.m, 0), impl.NodeOut{Store: synced(c.s), Code: impl.ErrDown})
		wantNodeCode(t, what+", wrong power", impl.Handle(c.s, c.m, -2), impl.ErrForm)
	}
	s := filled(t, hint, room)
	want, _ := changed(s, drops("cart", 4))
	wantNode(t, "log with a drop", impl.Handle(s, kept, -1), impl.NodeOut{Store: synced(want)})
	if len(want.Log) != impl.MaxBytes {
		t.Errorf("a log of %d bytes", len(want.Log))
	}
	// Nothing is written, so that nothing is full.
	wantNode(t, "an old confirmation", impl.Handle(filled(t, storeOf(t, 2), impl.MaxBytes), kept, 1), impl.NodeOut{Store: filled(t, storeOf(t, 2), impl.MaxBytes)})
}

// Promise 17.

func TestPackAtEachPower(t *testing.T) {
	for what, s := range someStores(t) {
		log := packedText(s)
		if got := impl.PackLog(s); got != log {
			t.Errorf("%s: PackLog: got %q, want %q", what, got, log)
		}
		for _, power := range powersAround(len(log)) {
			wantStoreOut(t, fmt.Sprint(what, ", power ", power), impl.StorePack(s, power), packModel(s, power))
		}
	}
}

// TestPackedLogsYieldTheSameItems is promise 17 by itself.
func TestPackedLogsYieldTheSameItems(t *testing.T) {
	for what, s := range someStores(t) {
		log := impl.PackLog(s)
		for power := int64(-1); power <= int64(len(log))+1; power++ {
			got := impl.StorePack(s, power)
			if !slices.EqualFunc(got.Store.Items, s.Items, sameItem) {
				t.Errorf("%s, power %d: items %v", what, power, got.Store.Items)
			}
			wantStore(t, what+": what survives", impl.StoreCrash(got.Store, 0), got.Store)
			if fails := power >= 0 && power <= int64(len(log)); fails != (got.Code == impl.ErrDown) || fails != (got.Store.Log == s.Log && got.Code != impl.OK) || !fails && got.Store.Log != log {
				t.Errorf("%s, power %d: code %d, a log of %d bytes", what, power, got.Code, len(got.Store.Log))
			}
		}
		packed := impl.StorePack(s, -1).Store
		wantStore(t, what+": packed twice", impl.StorePack(packed, -1), packed)
		if again := impl.PackLog(packed); again != log || len(log) > len(s.Log) {
			t.Errorf("%s: a log of %d bytes, packed %d bytes, again %d bytes", what, len(s.Log), len(log), len(again))
		}
		wantStore(t, what+": recovered", impl.Recover(s.Node, log), packed)
	}
}

// TestPackingGoesOn compacts logs that have no room, again and again, at first with failures of the power.
func TestPackingGoesOn(t *testing.T) {
	r := rand.New(rand.NewSource(17))
	s := impl.Store{Node: 2}
	packs := 0
	for i := range 900 {
		w := minting{key: string(rune('a' + i%impl.MaxItems)), seen: counts{0, 0, int64(i)}.marks(), data: someText(i % 17), power: -1}
		got := w.at(s)
		wantNode(t, "Mint", got, w.model(s))
		if got.Code == impl.OK {
			s = got.Store
			continue
		}
		for _, power := range []int64{0, r.Int63n(100), int64(len(packedText(s))), -1} {
			packed := impl.StorePack(s, power)
			wantStoreOut(t, "StorePack", packed, packModel(s, power))
			s = packed.Store
		}
		again := w.at(s)
		wantNode(t, "Mint behind StorePack", again, w.model(s))
		s = again.Store
		packs++
	}
	if packs < 2 || len(s.Items) != impl.MaxItems {
		t.Errorf("%d packs, items %v", packs, s.Items)
	}
}

func TestPackExamples(t *testing.T) {
	one := synced(storeOf(t, 1, puts("x", 1, oneSet(1, "v"))))
	if got := impl.PackLog(one); got != one.Log || len(got) != 19 {
		t.Errorf("PackLog: got %q", got)
	}
	wantStoreOut(t, "power 19", impl.StorePack(one, 19), impl.StoreOut{Store: one, Code: impl.ErrDown})
	wantStore(t, "power 20", impl.StorePack(one, 20), one)
	for _, s := range []impl.Store{{Node: 1}, storeOf(t, 1, puts("x", 3, oneSet(1, "v")), drops("x", 3))} {
		if got := impl.PackLog(s); got != "" {
			t.Errorf("PackLog of no items: got %q", got)
		}
		wantStoreOut(t, "no power", impl.StorePack(s, 0), impl.StoreOut{Store: synced(s), Code: impl.ErrDown})
		for _, power := range []int64{-1, 1, 2, impl.MaxPower} {
			wantStore(t, "no items", impl.StorePack(s, power), impl.Store{Node: 1})
		}
	}
}

func TestPackForm(t *testing.T) {
	for what, s := range notStores(t) {
		if got := impl.PackLog(s); got != "" {
			t.Errorf("%s: PackLog: got %s", what, shown(got))
		}
		for _, power := range append(wrongPowers(), -1, 0, 1, 19, impl.MaxPower) {
			wantStoreCode(t, what, impl.StorePack(s, power), impl.ErrForm)
		}
	}
	for what, s := range someStores(t) {
		for _, power := range wrongPowers() {
			wantStoreCode(t, fmt.Sprint(what, ", power ", power), impl.StorePack(s, power), impl.ErrForm)
		}
	}
}

// TestPackAnyStore has stores behind any changes.
func TestPackAnyStore(t *testing.T) {
	sets := someSets()
	for seed := range int64(10) {
		r := rand.New(rand.NewSource(seed))
		s := impl.Store{Node: 1 + seed%3}
		for range 40 {
			if next, code := changed(s, someChange(r, sets)); code == impl.OK {
				s = next
			}
			size := int64(len(packedText(s)))
			for _, power := range []int64{-1, 0, size / 2, size - 1, size, size + 1} {
				if power >= -1 {
					wantStoreOut(t, "StorePack", impl.StorePack(s, power), packModel(s, power))
				}
			}
			for nodes := int64(1); nodes <= impl.MaxNodes; nodes++ {
				wantMsgs(t, "HandMsgs", impl.HandMsgs(s, nodes), handModel(s, nodes))
			}
		}
	}
}

func TestHandMsgs(t *testing.T) {
	s := storeOf(t, 3, puts("b", 5, nodeSet(1, 2)), puts("b", 3, nodeSet(3, 1)), puts("b", 1, nodeSet(2, 1)), puts("a", 4, nodeSet(4, 3)),
		puts("c", 2, oneSet(1, "x")), puts("a", 3, nodeSet(5, 1)), puts("c", 5, oneSet(2, "")), puts("b", 1, nodeSet(1, 1)))
	hand := func(key string, who int64, set impl.Set) impl.Msg {
		return impl.Msg{Kind: impl.MsKeep, From: 3, To: who, Key: key, For: who, Set: set}
	}
	a4, b1, b5 := hand("a", 4, nodeSet(4, 3)), hand("b", 1, syncOf(nodeSet(2, 1), nodeSet(1, 1)).Set), hand("b", 5, nodeSet(1, 2))
	c2, c5 := hand("c", 2, oneSet(1, "x")), hand("c", 5, oneSet(2, ""))
	for nodes, want := range [][]impl.Msg{nil, {b1}, {b1, c2}, {b1, c2}, {a4, b1, c2}, {a4, b1, b5, c2, c5}} {
		wantMsgs(t, fmt.Sprint("up to ", nodes), impl.HandMsgs(s, int64(nodes)), want)
		wantMsgs(t, fmt.Sprint("synced, up to ", nodes), impl.HandMsgs(synced(s), int64(nodes)), want)
	}
	for _, m := range impl.HandMsgs(s, impl.MaxNodes) {
		if !impl.MsgRight(m) {
			t.Errorf("not valid: %v", m)
		}
	}
	for _, nodes := range wrongNodes() {
		wantMsgs(t, fmt.Sprint("up to ", nodes), impl.HandMsgs(s, nodes), nil)
	}
	for what, s := range notStores(t) {
		for nodes := int64(1); nodes <= impl.MaxNodes; nodes++ {
			wantMsgs(t, what, impl.HandMsgs(s, nodes), nil)
		}
	}
	for what, s := range someStores(t) {
		for nodes := int64(1); nodes <= impl.MaxNodes; nodes++ {
			wantMsgs(t, what, impl.HandMsgs(s, nodes), handModel(s, nodes))
		}
	}
}

// TestHandedOff lets a hint go to its node and back: the confirmation drops it.
func TestHandedOff(t *testing.T) {
	s := storeOf(t, 2, puts("cart", 3, nodeSet(1, 2)), puts("cart", 2, nodeSet(2, 1)), puts("cart", 4, nodeSet(1, 1)))
	owner := storeOf(t, 3, puts("cart", 3, nodeSet(4, 1)))
	for _, m := range impl.HandMsgs(s, 3) {
		kept := impl.Handle(owner, m, -1)
		owner = kept.Store
		for _, back := range kept.Out {
			s = impl.Handle(s, back, -1).Store
		}
	}
	want := synced(storeOf(t, 2, puts("cart", 3, nodeSet(1, 2)), puts("cart", 2, nodeSet(2, 1)), puts("cart", 4, nodeSet(1, 1)), drops("cart", 3)))
	wantStore(t, "the node", impl.StoreOut{Store: s}, want)
	wantStore(t, "the owner", impl.StoreOut{Store: owner}, synced(storeOf(t, 3, puts("cart", 3, nodeSet(4, 1)), puts("cart", 3, nodeSet(1, 2)))))
}

// nodeOperations are all operations, each with its results as one.
func nodeOperations() map[string]func(s impl.Store, x impl.Set) impl.NodeOut {
	keep := func(key string, who int64) func(s impl.Store, x impl.Set) impl.NodeOut {
		return func(s impl.Store, x impl.Set) impl.NodeOut {
			return impl.Handle(s, impl.Msg{Kind: impl.MsKeep, From: 1, To: 2, Req: 1, Key: key, For: who, Set: x}, -1)
		}
	}
	mint := func(key string, power int64) func(s impl.Store, x impl.Set) impl.NodeOut {
		return func(s impl.Store, x impl.Set) impl.NodeOut { return impl.Mint(s, key, x.Seen, "v", false, power) }
	}
	pack := func(power int64) func(s impl.Store, x impl.Set) impl.NodeOut {
		return func(s impl.Store, x impl.Set) impl.NodeOut {
			out := impl.StorePack(s, power)
			return impl.NodeOut{Store: out.Store, Code: out.Code}
		}
	}
	return map[string]func(s impl.Store, x impl.Set) impl.NodeOut{
		"write to an item": mint("cart", -1), "write to none": mint("b", -1), "write to no name": mint("B", -1),
		"write without power": mint("cart", 0), "write with little power": mint("cart", 9), "write with more power": mint("b", 31),
		"keep in an item": keep("cart", 2), "keep in a hint": keep("z_9", 5), "keep in a new hint": keep("cart", 5), "keep at the end": keep("zz", 2),
		"read": func(s impl.Store, x impl.Set) impl.NodeOut {
			return impl.Handle(s, impl.Msg{Kind: impl.MsRead, From: 1, To: 2, Req: 1, Key: "cart", For: 2}, -1)
		},
		"told": func(s impl.Store, x impl.Set) impl.NodeOut {
			return impl.Handle(s, impl.Msg{Kind: impl.MsTold, From: 1, To: 2, Req: 1, Key: "cart", For: 2, Set: x}, -1)
		},
		"kept": func(s impl.Store, x impl.Set) impl.NodeOut {
			return impl.Handle(s, impl.Msg{Kind: impl.MsKept, From: 5, To: 2, Key: "z_9", For: 5, Set: impl.Set{Seen: x.Seen}}, -1)
		},
		"hand off": func(s impl.Store, x impl.Set) impl.NodeOut {
			return impl.NodeOut{Out: impl.HandMsgs(s, impl.MaxNodes)}
		},
		"pack": pack(-1), "pack without power": pack(0), "pack with little power": pack(9),
	}
}

func spoilNode(out impl.NodeOut) {
	spoilStore(out.Store)
	spoil(out.Set)
	for i := range out.Out {
		spoil(out.Out[i].Set)
		out.Out[i] = impl.Msg{Key: "spoiled"}
	}
}

func copyNode(out impl.NodeOut) impl.NodeOut {
	out.Store, out.Set = roomyStore(out.Store), copyOf(out.Set)
	out.Out = slices.Clone(out.Out)
	for i := range out.Out {
		out.Out[i].Set = copyOf(out.Out[i].Set)
	}
	return out
}

func TestNodesAreNewMemory(t *testing.T) {
	for what, operation := range nodeOperations() {
		oldStore, oldSet := sampleStore(t), nodeSet(4, 3)
		s, x := roomyStore(oldStore), roomy(oldSet)
		got := operation(s, x)
		wantUntouchedStore(t, what, s, oldStore)
		wantUntouched(t, what, x, oldSet)
		want := copyNode(got)
		spoilStore(s)
		spoil(x)
		wantNode(t, what+", arguments spoiled", got, want)
		s, x = roomyStore(oldStore), roomy(oldSet)
		spoilNode(operation(s, x))
		wantUntouchedStore(t, what+", result spoiled", s, oldStore)
		wantUntouched(t, what+", result spoiled", x, oldSet)
	}
}

// TestNodeResultsShareNoMemory spoils one part of a result at a time.
func TestNodeResultsShareNoMemory(t *testing.T) {
	for what, operation := range nodeOperations() {
		want := operation(sampleStore(t), nodeSet(4, 3))
		got := operation(sampleStore(t), nodeSet(4, 3))
		spoil(got.Set)
		got.Set = copyOf(want.Set)
		wantNode(t, what+", Set spoiled", got, want)
		for i := range got.Out {
			spoil(got.Out[i].Set)
			got.Out[i].Set = copyOf(want.Out[i].Set)
			wantNode(t, what+", message spoiled", got, want)
		}
		for i := range got.Store.Items {
			spoil(got.Store.Items[i].Set)
			got.Store.Items[i].Set = copyOf(want.Store.Items[i].Set)
			wantNode(t, what+", item spoiled", got, want)
		}
	}
}
