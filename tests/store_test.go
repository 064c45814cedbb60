package tests

import (
	"encoding/binary"
	"fmt"
	"hash/crc32"
	"math"
	"math/rand"
	"slices"
	"strings"
	"testing"

	"loop.example/g00659/impl"
)

// change is one record of a log: it puts a Set or drops the item.
type change struct {
	drop bool
	key  string
	who  int64
	set  impl.Set
}

func puts(key string, who int64, set impl.Set) change {
	return change{key: key, who: who, set: set}
}

func drops(key string, who int64) change {
	return change{drop: true, key: key, who: who}
}

func numText(n int64) string {
	return string(binary.AppendVarint(nil, n))
}

func lengthText(text string) string {
	return numText(int64(len(text))) + text
}

// recordText seals with another implementation of the checksum; the body may be malformed.
func recordText(body string) string {
	return lengthText(string(binary.LittleEndian.AppendUint32([]byte(body), crc32.ChecksumIEEE([]byte(body)))))
}

func (c change) body() string {
	if c.drop {
		return numText(2) + numText(c.who) + lengthText(c.key)
	}
	return numText(1) + numText(c.who) + lengthText(c.key) + lengthText(setText(c.set))
}

func (c change) text() string {
	return recordText(c.body())
}

func logText(changes []change) string {
	text := ""
	for _, c := range changes {
		text += c.text()
	}
	return text
}

func itemAt(s impl.Store, key string, who int64) int {
	return slices.IndexFunc(s.Items, func(x impl.Item) bool { return x.Key == key && x.For == who })
}

func hintsOf(s impl.Store) int {
	count := 0
	for _, x := range s.Items {
		if x.For != s.Node {
			count++
		}
	}
	return count
}

// changed is the store with one more change, unsynced, or the code with which it fails.
func changed(s impl.Store, c change) (impl.Store, int64) {
	items := slices.Clone(s.Items)
	at := itemAt(s, c.key, c.who)
	log := s.Log + c.text()
	if c.drop && at < 0 {
		return impl.Store{}, impl.ErrNone
	}
	if c.drop {
		items = slices.Delete(items, at, at+1)
	} else {
		if at < 0 {
			at = len(items)
			items = append(items, impl.Item{Key: c.key, For: c.who})
		}
		out := syncOf(items[at].Set, c.set)
		if out.Code != impl.OK {
			return impl.Store{}, out.Code
		}
		items[at].Set = out.Set
	}
	slices.SortFunc(items, func(a impl.Item, b impl.Item) int {
		if a.Key != b.Key {
			return strings.Compare(a.Key, b.Key)
		}
		return int(a.For - b.For)
	})
	next := impl.Store{Node: s.Node, Items: items, Log: log, Synced: s.Synced}
	if hints := hintsOf(next); hints > impl.MaxHints || len(items)-hints > impl.MaxItems || len(log) > impl.MaxBytes {
		return impl.Store{}, impl.ErrFull
	}
	return next, impl.OK
}

// storeOf is the store of a node after changes, all of which must succeed, unsynced.
func storeOf(t *testing.T, node int64, changes ...change) impl.Store {
	t.Helper()
	s := impl.Store{Node: node}
	for i, c := range changes {
		next, code := changed(s, c)
		if code != impl.OK {
			t.Fatalf("change %d: code %d", i, code)
		}
		s = next
	}
	return s
}

func synced(s impl.Store) impl.Store {
	s.Synced = int64(len(s.Log))
	return s
}

func sameItem(a impl.Item, b impl.Item) bool {
	return a.Key == b.Key && a.For == b.For && sameSet(a.Set, b.Set)
}

func wantStoreOut(t *testing.T, what string, got impl.StoreOut, want impl.StoreOut) {
	t.Helper()
	a, b := got.Store, want.Store
	if got.Code != want.Code || a.Node != b.Node || a.Log != b.Log || a.Synced != b.Synced || !slices.EqualFunc(a.Items, b.Items, sameItem) {
		t.Errorf("%s: got node %d, items %#v, log %s, synced %d, code %d, want node %d, items %#v, log %s, synced %d, code %d", what,
			a.Node, a.Items, shown(a.Log), a.Synced, got.Code, b.Node, b.Items, shown(b.Log), b.Synced, want.Code)
	}
}

func wantStore(t *testing.T, what string, got impl.StoreOut, want impl.Store) {
	t.Helper()
	wantStoreOut(t, what, got, impl.StoreOut{Store: want})
}

func wantStoreCode(t *testing.T, what string, got impl.StoreOut, code int64) {
	t.Helper()
	wantStoreOut(t, what, got, impl.StoreOut{Code: code})
}

func wrongNodes() []int64 {
	return []int64{0, impl.MaxNodes + 1, -1, -impl.MaxNodes, 1 << 32, 1<<32 + 1, math.MinInt64, math.MaxInt64}
}

// oneSet has one write of one node, and nothing before it.
func oneSet(node int64, data string) impl.Set {
	return impl.Set{Seen: []impl.Mark{{Node: node, N: 1}}, Sibs: []impl.Sib{{Dot: impl.Mark{Node: node, N: 1}, Data: data}}}
}

// overfull has two Sets of one item that do not fit together.
func overfull() (impl.Set, impl.Set) {
	return nodeSet(1, 5), nodeSet(2, 4)
}

// sampleChanges has both kinds, merged items, hints, and keys of all sorts of order.
func sampleChanges() []change {
	return []change{
		puts("cart", 2, oneSet(1, "x")), puts("cart", 3, nodeSet(3, 2)), puts("a", 2, nodeSet(5, 8)),
		puts("cart", 2, nodeSet(2, 3)), puts("cart", 1, impl.Set{Seen: counts{0, 0, 7}.marks()}),
		drops("cart", 3), puts("car", 2, oneSet(4, someText(16))), puts("z_9", 5, nodeSet(4, 2)),
		puts("cart", 2, impl.Set{Seen: counts{0, 1, 3}.marks(), Sibs: []impl.Sib{sibOf(2, 2)}}),
		drops("a", 2), puts("cart", 3, oneSet(2, "")), puts(strings.Repeat("k", 20), 2, nodeSet(1, 1)),
	}
}

func sampleStore(t *testing.T) impl.Store {
	t.Helper()
	return storeOf(t, 2, sampleChanges()...)
}

// sizedPut has a record of 18 to 53 bytes.
func sizedPut(who int64, size int) change {
	key := min(size-17, 20)
	return puts(strings.Repeat("k", key), who, oneSet(1, strings.Repeat("d", size-17-key)))
}

func sizedChange(size int) change {
	return sizedPut(1, size)
}

// filled has a log of that many bytes: behind what it had, all of it are puts of one key of the node itself but for at most the last ones.
func filled(t *testing.T, s impl.Store, size int) impl.Store {
	t.Helper()
	rest := size - len(s.Log)
	var changes []change
	for ; rest > 106; rest -= 40 {
		changes = append(changes, sizedPut(s.Node, 40))
	}
	for _, c := range append(changes, sizedPut(s.Node, rest/2), sizedPut(s.Node, rest-rest/2)) {
		next, code := changed(s, c)
		if code != impl.OK {
			t.Fatalf("filling a log of %d bytes: code %d", len(s.Log), code)
		}
		s = next
	}
	if len(s.Log) != size {
		t.Fatalf("a log of %d bytes, want %d", len(s.Log), size)
	}
	return synced(s)
}

func sizedStore(t *testing.T, size int) impl.Store {
	t.Helper()
	return filled(t, impl.Store{Node: 1}, size)
}

func TestStoreLimits(t *testing.T) {
	if impl.MaxItems != 6 || impl.MaxHints != 6 {
		t.Errorf("limits: %d, %d", impl.MaxItems, impl.MaxHints)
	}
}

func TestStoreExample(t *testing.T) {
	x := impl.SetPut(impl.Set{}, nil, 1, "x", false).Set
	one := impl.StoreSync(impl.StorePut(impl.StoreNew(2).Store, "cart", 2, x).Store).Store
	two := impl.StorePut(one, "cart", 3, x).Store
	wantStore(t, "one synced", impl.StoreOut{Store: one}, synced(storeOf(t, 2, puts("cart", 2, x))))
	wantStore(t, "keep 0", impl.StoreCrash(two, 0), one)
	wantStore(t, "keep 3", impl.StoreCrash(two, 3), one)
	wantStore(t, "keep 99", impl.StoreCrash(two, 99), synced(two))
	if len(one.Items) != 1 || len(two.Items) != 2 {
		t.Errorf("%d and %d items", len(one.Items), len(two.Items))
	}
}

func TestRecordBytes(t *testing.T) {
	x := oneSet(1, "a")
	put := impl.StorePut(impl.Store{Node: 1}, "x", 1, x).Store
	body := "\x02\x02\x02x\x12\x02\x02\x02\x02\x02\x02\x00\x02a"
	if want := "\x24" + impl.Seal(body); put.Log != want || len(put.Log) != 19 {
		t.Errorf("put: got %q, want %q", put.Log, want)
	}
	drop := impl.StoreDrop(put, "x", 1).Store
	if want := put.Log + "\x10" + impl.Seal("\x04\x02\x02x"); drop.Log != want {
		t.Errorf("drop: got %q, want %q", drop.Log, want)
	}
}

func TestStoreNew(t *testing.T) {
	for node := int64(1); node <= impl.MaxNodes; node++ {
		wantStore(t, "StoreNew", impl.StoreNew(node), impl.Store{Node: node})
		if !impl.StoreRight(impl.Store{Node: node}) {
			t.Errorf("the empty store of node %d is not valid", node)
		}
	}
	for _, node := range wrongNodes() {
		wantStoreCode(t, "StoreNew", impl.StoreNew(node), impl.ErrForm)
	}
}

// Promise 7.

func TestRecoverCutLogs(t *testing.T) {
	changes := sampleChanges()
	log := logText(changes)
	done := 0
	for cut := range len(log) + 1 {
		if done < len(changes) && cut == len(logText(changes[:done+1])) {
			done++
		}
		wantStore(t, "Recover of a part", impl.Recover(2, log[:cut]), synced(storeOf(t, 2, changes[:done]...)))
	}
	if done != len(changes) {
		t.Errorf("%d of %d changes", done, len(changes))
	}
}

func TestRecoverAtEachNode(t *testing.T) {
	log := logText(sampleChanges())
	for node := int64(1); node <= impl.MaxNodes; node++ {
		wantStore(t, "Recover", impl.Recover(node, log), synced(storeOf(t, node, sampleChanges()...)))
		wantStore(t, "Recover of nothing", impl.Recover(node, ""), impl.Store{Node: node})
	}
	for _, node := range wrongNodes() {
		wantStoreCode(t, "Recover", impl.Recover(node, log), impl.ErrForm)
		wantStoreCode(t, "Recover of nothing", impl.Recover(node, ""), impl.ErrForm)
		wantStoreCode(t, "Recover of no log", impl.Recover(node, "x"), impl.ErrForm)
	}
}

func TestRecoverStopsAtChangedBytes(t *testing.T) {
	first, second, third := puts("cart", 2, oneSet(1, "x")), puts("a", 3, nodeSet(3, 2)), drops("cart", 2)
	want := synced(storeOf(t, 2, first))
	start, end := len(first.text()), len(first.text()+second.text())
	for at := start; at < end; at++ {
		for flip := 1; flip < 256; flip++ {
			b := []byte(logText([]change{first, second, third}))
			b[at] ^= byte(flip)
			wantStore(t, "a changed byte", impl.Recover(2, string(b)), want)
		}
	}
}

// wrongBodies are sealed correctly where they occur, but are no record of a log with the items cart for 2 and a for 3.
func wrongBodies() map[string]string {
	set := lengthText(setText(oneSet(1, "x")))
	wrong := map[string]string{
		"nothing":                "",
		"a kind alone":           "\x02",
		"no key":                 "\x02\x04",
		"no Set":                 "\x02\x04" + lengthText("cart"),
		"a number cut short":     "\x80",
		"a longer kind":          "\x82\x00\x04" + lengthText("cart") + set,
		"a longer For":           "\x02\x84\x00" + lengthText("cart") + set,
		"a longer length":        "\x02\x04\x88\x00cart" + set,
		"a key cut short":        "\x02\x04\x0acart",
		"a Set cut short":        "\x02\x04" + lengthText("cart") + set[:len(set)-1],
		"a Set of no bytes":      "\x02\x04" + lengthText("cart") + "\x00",
		"more within the Set":    "\x02\x04" + lengthText("cart") + lengthText(setText(oneSet(1, "x"))+"\x00"),
		"less within the Set":    "\x02\x04" + lengthText("cart") + lengthText("\x02\x02\x02"),
		"more behind a put":      puts("cart", 2, oneSet(1, "x")).body() + "\x00",
		"more behind a drop":     drops("cart", 2).body() + "\x00",
		"a drop with a Set":      drops("cart", 2).body() + set,
		"an empty Seen":          puts("cart", 2, impl.Set{}).body(),
		"an empty Seen of a new": puts("b", 2, impl.Set{}).body(),
		"no such key":            drops("car", 2).body(),
		"no such For":            drops("cart", 3).body(),
		"kind 0 as a drop":       "\x00\x04" + lengthText("cart"),
		"kind 0 as a put":        "\x00\x04" + lengthText("cart") + set,
	}
	for _, kind := range []int64{-1, 3, 4, 64, 1 << 32, 1<<32 + 1, math.MinInt64, math.MaxInt64} {
		wrong[fmt.Sprint("kind of a put ", kind)] = numText(kind) + "\x04" + lengthText("cart") + set
		wrong[fmt.Sprint("kind of a drop ", kind)] = numText(kind) + "\x04" + lengthText("cart")
	}
	for _, who := range wrongNodes() {
		wrong[fmt.Sprint("put for ", who)] = puts("cart", who, oneSet(1, "x")).body()
		wrong[fmt.Sprint("drop for ", who)] = drops("cart", who).body()
	}
	for _, key := range notNames() {
		wrong["put of key "+shown(key)] = puts(key, 2, oneSet(1, "x")).body()
		wrong["drop of key "+shown(key)] = drops(key, 2).body()
	}
	return wrong
}

func notNames() []string {
	return []string{"", "A", "_a", "9", "a b", "a\x00", "\u00e4", "cart ", strings.Repeat("k", 21), strings.Repeat("k", 200)}
}

func TestRecoverStopsAtWrongRecords(t *testing.T) {
	before := []change{puts("cart", 2, oneSet(1, "x")), puts("a", 3, nodeSet(3, 2))}
	want := synced(storeOf(t, 2, before...))
	behind := puts("b", 2, oneSet(1, "x")).text()
	for what, body := range wrongBodies() {
		log := logText(before) + recordText(body)
		wantStore(t, what, impl.Recover(2, log+behind), want)
		wantStore(t, what+", first", impl.Recover(2, recordText(body)+behind), impl.Store{Node: 2})
		s := want
		s.Log = log
		if impl.StoreRight(s) {
			t.Errorf("%s: valid", what)
		}
	}
}

// TestRecoverStopsAtWrongFrames has records that are no PutText of a Seal.
func TestRecoverStopsAtWrongFrames(t *testing.T) {
	first, second := puts("cart", 2, oneSet(1, "x")), puts("b", 2, oneSet(1, "x"))
	want := synced(storeOf(t, 2, first))
	sealed := second.text()[1:]
	for what, frame := range map[string]string{
		"no seal":           lengthText(second.body()),
		"no bytes":          "\x00",
		"three bytes":       lengthText("abc"),
		"a longer length":   string([]byte{second.text()[0] | 128, 0}) + sealed,
		"a negative length": "\x01" + sealed,
		"a large length":    numText(impl.MaxBytes+1) + sealed,
		"one byte less":     numText(int64(len(sealed)-1)) + sealed,
		"one byte more":     numText(int64(len(sealed)+1)) + sealed,
		"no length":         sealed,
		"big-endian":        lengthText(string(binary.BigEndian.AppendUint32([]byte(second.body()), crc32.ChecksumIEEE([]byte(second.body()))))),
	} {
		wantStore(t, what, impl.Recover(2, first.text()+frame+second.text()), want)
		wantStore(t, what, impl.Recover(2, first.text()+frame), want)
	}
	for b := range 256 {
		wantStore(t, "one byte behind", impl.Recover(2, first.text()+string([]byte{byte(b)})), want)
	}
}

func TestRecoverStopsWhereSetSyncFails(t *testing.T) {
	a, b := overfull()
	before := []change{puts("cart", 2, a), puts("cart", 3, b)}
	want := synced(storeOf(t, 2, before...))
	for _, last := range []change{puts("cart", 2, b), puts("cart", 3, a)} {
		log := logText(before) + last.text()
		wantStore(t, "nine siblings", impl.Recover(2, log+puts("b", 2, a).text()), want)
		s := want
		s.Log = log
		if impl.StoreRight(s) {
			t.Errorf("a log with nine siblings is valid")
		}
	}
}

// manyItems puts count keys for a node.
func manyItems(who int64, count int) []change {
	var l []change
	for i := range count {
		l = append(l, puts("k"+string(rune('a'+i)), who, oneSet(1, "x")))
	}
	return l
}

func TestRecoverStopsAtTooManyItems(t *testing.T) {
	own, hints := manyItems(2, impl.MaxItems), manyItems(3, impl.MaxHints)
	all := append(slices.Clone(own), hints...)
	wantStore(t, "full", impl.Recover(2, logText(all)), synced(storeOf(t, 2, all...)))
	for _, last := range []change{puts("zz", 2, oneSet(1, "x")), puts("zz", 3, oneSet(1, "x")), puts("ka", 1, oneSet(1, "x")), puts("ka", 5, oneSet(1, "x"))} {
		log := logText(all) + last.text() + drops("ka", 2).text()
		wantStore(t, "too many", impl.Recover(2, log), synced(storeOf(t, 2, all...)))
	}
	wantStore(t, "own items alone", impl.Recover(2, logText(own)+puts("zz", 2, oneSet(1, "x")).text()), synced(storeOf(t, 2, own...)))
	wantStore(t, "hints alone", impl.Recover(2, logText(hints)+puts("zz", 4, oneSet(1, "x")).text()), synced(storeOf(t, 2, hints...)))
	// For another node the items of node 2 are hints, too.
	wantStore(t, "at another node", impl.Recover(4, logText(all)), synced(storeOf(t, 4, own...)))
	wantStore(t, "at the hinted node", impl.Recover(3, logText(all)), synced(storeOf(t, 3, all...)))
	more := append(slices.Clone(all), puts("ka", 2, oneSet(2, "y")), puts("kb", 3, oneSet(2, "y")), drops("kc", 2), puts("zz", 2, oneSet(1, "x")), drops("kf", 3), puts("zz", 1, oneSet(1, "x")))
	wantStore(t, "merged and replaced", impl.Recover(2, logText(more)), synced(storeOf(t, 2, more...)))
}

func TestRecoverSize(t *testing.T) {
	full := sizedStore(t, impl.MaxBytes)
	wantStore(t, "MaxBytes", impl.Recover(1, full.Log), full)
	wantStore(t, "MaxBytes of no record", impl.Recover(1, strings.Repeat("\xff", impl.MaxBytes)), impl.Store{Node: 1})
	for _, more := range []string{"\x00", puts("x", 1, oneSet(1, "x")).text(), full.Log} {
		for _, node := range append(wrongNodes(), 1, impl.MaxNodes) {
			wantStoreCode(t, "more than MaxBytes", impl.Recover(node, full.Log+more), impl.ErrSize)
		}
	}
}

// TestRecordsAreMergedInOrder has two writes with one Dot, the first of which stays.
func TestRecordsAreMergedInOrder(t *testing.T) {
	first, second := oneSet(1, "first"), oneSet(1, "second")
	log := puts("x", 1, first).text() + puts("x", 1, second).text()
	if got := impl.StoreOf(impl.Recover(1, log).Store, "x", 1); !sameSet(got, first) {
		t.Errorf("recovered: got %#v", got)
	}
	s := impl.StorePut(impl.StorePut(impl.Store{Node: 1}, "x", 1, first).Store, "x", 1, second).Store
	if got := impl.StoreOf(s, "x", 1); !sameSet(got, first) || s.Log != log {
		t.Errorf("put: got %#v", got)
	}
	again := impl.StorePut(impl.StoreDrop(s, "x", 1).Store, "x", 1, second).Store
	if got := impl.StoreOf(again, "x", 1); !sameSet(got, second) {
		t.Errorf("put behind a drop: got %#v", got)
	}
}

func TestStoreRightSynced(t *testing.T) {
	s := sampleStore(t)
	ends := []int64{0}
	for i := range sampleChanges() {
		ends = append(ends, int64(len(logText(sampleChanges()[:i+1]))))
	}
	for at := int64(-3); at < int64(len(s.Log))+4; at++ {
		s.Synced = at
		if got := impl.StoreRight(s); got != slices.Contains(ends, at) {
			t.Errorf("Synced %d: got %v", at, got)
		}
	}
	for _, at := range []int64{math.MinInt64, math.MaxInt64, 1 << 32, -1 << 32} {
		s.Synced = at
		if impl.StoreRight(s) {
			t.Errorf("Synced %d: valid", at)
		}
	}
	if impl.StoreRight(impl.Store{Node: 1, Synced: 1}) || impl.StoreRight(impl.Store{Node: 1, Synced: -1}) {
		t.Error("Synced of an empty log: valid")
	}
}

// changedItems are lists that differ from the items in one respect each.
func changedItems(items []impl.Item) map[string][]impl.Item {
	l := map[string][]impl.Item{
		"none": nil, "first missing": items[1:], "last missing": items[:len(items)-1],
		"one twice":     append(slices.Clone(items), items[0]),
		"one more":      append(slices.Clone(items), impl.Item{Key: "zz", For: 2, Set: oneSet(1, "x")}),
		"an empty more": append(slices.Clone(items), impl.Item{}),
	}
	for i := range items {
		with := func(what string, change func(x *impl.Item)) {
			list := slices.Clone(items)
			list[i].Set = copyOf(list[i].Set)
			change(&list[i])
			l[fmt.Sprint(what, " ", items[i].Key, items[i].For)] = list
		}
		with("key", func(x *impl.Item) { x.Key += "x" })
		with("For", func(x *impl.Item) { x.For = x.For%impl.MaxNodes + 1 })
		with("Seen", func(x *impl.Item) { x.Set.Seen[0].N++ })
		with("more Seen", func(x *impl.Item) { x.Set.Seen = append(x.Set.Seen, impl.Mark{Node: 6, N: 1}) })
		with("no Seen", func(x *impl.Item) { x.Set.Seen = nil })
		with("Set", func(x *impl.Item) { x.Set = impl.Set{} })
		with("more siblings", func(x *impl.Item) { x.Set.Sibs = append(x.Set.Sibs, sibOf(5, 1)) })
		if len(items[i].Set.Sibs) > 0 {
			with("Data", func(x *impl.Item) { x.Set.Sibs[0].Data += "x" })
			with("Gone", func(x *impl.Item) { x.Set.Sibs[0].Gone = !x.Set.Sibs[0].Gone })
			with("Dot", func(x *impl.Item) { x.Set.Sibs[0].Dot.N++ })
			with("no siblings", func(x *impl.Item) { x.Set.Sibs = nil })
		}
		if i > 0 {
			list := slices.Clone(items)
			list[i-1], list[i] = list[i], list[i-1]
			l[fmt.Sprint("exchanged ", i)] = list
		}
	}
	return l
}

// notStores has stores that are invalid for one reason each.
func notStores(t *testing.T) map[string]impl.Store {
	t.Helper()
	l := map[string]impl.Store{}
	for what, items := range changedItems(sampleStore(t).Items) {
		s := sampleStore(t)
		s.Items = items
		l["items: "+what] = s
	}
	for _, node := range append(wrongNodes(), 1, 3) {
		s := storeOf(t, 2, manyItems(2, impl.MaxItems)...)
		s, _ = changed(s, puts("cart", 4, oneSet(1, "x")))
		s.Node = node
		l[fmt.Sprint("node ", node)] = s
	}
	for _, at := range []int64{-1, 1, int64(len(sampleStore(t).Log)) - 1, int64(len(sampleStore(t).Log)) + 1} {
		s := sampleStore(t)
		s.Synced = at
		l[fmt.Sprint("synced ", at)] = s
	}
	for _, more := range []string{"\x00", "x", puts("zz", 2, oneSet(1, "x")).text()[:7], puts("cart", 2, nodeSet(1, 1)).text() + "\x00", drops("zz", 2).text()} {
		s := sampleStore(t)
		s.Log += more
		l["left over "+shown(more)] = s
	}
	long := sizedStore(t, impl.MaxBytes)
	long.Log += sizedChange(40).text()
	l["long log"] = long
	l["no node"] = impl.Store{}
	l["items without a log"] = impl.Store{Node: 1, Items: []impl.Item{{Key: "cart", For: 1, Set: oneSet(1, "x")}}}
	l["log without items"] = impl.Store{Node: 1, Log: puts("cart", 1, oneSet(1, "x")).text()}
	l["no log"] = impl.Store{Node: 1, Log: strings.Repeat("\xff", 2*impl.MaxBytes)}
	return l
}

func TestStoreRight(t *testing.T) {
	for _, s := range []impl.Store{sampleStore(t), synced(sampleStore(t)), sizedStore(t, impl.MaxBytes), {Node: 1, Items: []impl.Item{}}} {
		if !impl.StoreRight(s) {
			t.Errorf("a store with a log of %d bytes is not valid", len(s.Log))
		}
	}
	for what, s := range notStores(t) {
		if impl.StoreRight(s) {
			t.Errorf("%s: valid", what)
		}
	}
}

// TestItemsOfOtherNodes: at nodes 1 and 3 the seven items of notStores are too many hints, at node 4 they are not.
func TestItemsOfOtherNodes(t *testing.T) {
	s := storeOf(t, 2, append(manyItems(2, impl.MaxItems), puts("cart", 4, oneSet(1, "x")))...)
	for node := int64(1); node <= impl.MaxNodes; node++ {
		s.Node = node
		if got := impl.StoreRight(s); got != (node == 2 || node == 4) {
			t.Errorf("node %d: got %v", node, got)
		}
	}
}

func TestEmptyListsAreAsNone(t *testing.T) {
	s := storeOf(t, 1, puts("cart", 1, impl.Set{Seen: counts{0, 1}.marks()}))
	for _, sibs := range [][]impl.Sib{nil, {}} {
		s.Items[0].Set.Sibs = sibs
		if !impl.StoreRight(s) {
			t.Errorf("%#v: not valid", sibs)
		}
	}
}

func TestInvalidStoresAreRejected(t *testing.T) {
	long := strings.Repeat("k", impl.MaxBytes+1)
	for what, s := range notStores(t) {
		wantStoreCode(t, what+", StorePut", impl.StorePut(s, "cart", 2, oneSet(1, "x")), impl.ErrForm)
		wantStoreCode(t, what+", StorePut of nothing", impl.StorePut(s, "", 0, impl.Set{}), impl.ErrForm)
		wantStoreCode(t, what+", StoreDrop", impl.StoreDrop(s, "cart", 2), impl.ErrForm)
		wantStoreCode(t, what+", StoreDrop of no item", impl.StoreDrop(s, "no_such", 2), impl.ErrForm)
		wantStoreCode(t, what+", StoreSync", impl.StoreSync(s), impl.ErrForm)
		for _, keep := range []int64{-1, 0, 3, impl.MaxBytes, math.MaxInt64} {
			wantStoreCode(t, what+", StoreCrash", impl.StoreCrash(s, keep), impl.ErrForm)
		}
		if got := impl.StoreOf(s, "cart", 2); !sameSet(got, impl.Set{}) {
			t.Errorf("%s, StoreOf: got %#v", what, got)
		}
		wantStoreCode(t, what+", StorePut of a long key", impl.StorePut(s, long, 2, oneSet(1, "x")), impl.ErrSize)
		wantStoreCode(t, what+", StoreDrop of a long key", impl.StoreDrop(s, long, 2), impl.ErrSize)
	}
}

func TestStoreOf(t *testing.T) {
	s := sampleStore(t)
	keys := append(notNames(), "cart", "car", "a", "z_9", "b", strings.Repeat("k", 20), strings.Repeat("k", impl.MaxBytes), strings.Repeat("k", impl.MaxBytes+1))
	for _, key := range keys {
		for _, who := range append(wrongNodes(), 1, 2, 3, 4, 5) {
			var want impl.Set
			if at := itemAt(s, key, who); at >= 0 {
				want = s.Items[at].Set
			}
			if got := impl.StoreOf(s, key, who); !sameSet(got, want) {
				t.Errorf("StoreOf(%s, %d): got %#v, want %#v", shown(key), who, got, want)
			}
		}
	}
}

func TestStorePutForm(t *testing.T) {
	full := sizedStore(t, impl.MaxBytes)
	for _, s := range []impl.Store{{Node: 2}, sampleStore(t), full} {
		for _, key := range notNames() {
			wantStoreCode(t, "key "+shown(key), impl.StorePut(s, key, 2, oneSet(1, "x")), impl.ErrForm)
		}
		for _, who := range wrongNodes() {
			wantStoreCode(t, "who", impl.StorePut(s, "cart", who, oneSet(1, "x")), impl.ErrForm)
		}
		for i, x := range notSets() {
			if got := impl.StorePut(s, "cart", 2, x); got.Code != impl.ErrForm || got.Store.Node != 0 || len(got.Store.Items)+len(got.Store.Log) > 0 {
				t.Errorf("invalid Set %d: code %d", i, got.Code)
			}
		}
		wantStoreCode(t, "an empty Seen", impl.StorePut(s, "cart", 2, impl.Set{}), impl.ErrForm)
		wantStoreCode(t, "an empty Seen", impl.StorePut(s, "cart", 2, impl.Set{Seen: []impl.Mark{}, Sibs: []impl.Sib{}}), impl.ErrForm)
		wantStoreCode(t, "a key of MaxBytes", impl.StorePut(s, strings.Repeat("k", impl.MaxBytes), 2, oneSet(1, "x")), impl.ErrForm)
		for _, x := range []impl.Set{oneSet(1, "x"), {}, notSets()[0]} {
			for _, who := range []int64{0, 2} {
				wantStoreCode(t, "a longer key", impl.StorePut(s, strings.Repeat("k", impl.MaxBytes+1), who, x), impl.ErrSize)
			}
		}
	}
}

func TestStorePutFull(t *testing.T) {
	a, b := overfull()
	s := storeOf(t, 2, puts("cart", 2, a), puts("cart", 3, b))
	wantStoreCode(t, "nine siblings", impl.StorePut(s, "cart", 2, b), impl.ErrFull)
	wantStoreCode(t, "nine siblings of a hint", impl.StorePut(s, "cart", 3, a), impl.ErrFull)
	wantStore(t, "eight siblings", impl.StorePut(s, "cart", 2, nodeSet(3, 3)), storeOf(t, 2, puts("cart", 2, a), puts("cart", 3, b), puts("cart", 2, nodeSet(3, 3))))
	all := append(manyItems(2, impl.MaxItems), manyItems(3, impl.MaxHints)...)
	s = impl.Store{Node: 2}
	for i, c := range all {
		out := impl.StorePut(s, c.key, c.who, c.set)
		wantStore(t, "within the limits", out, storeOf(t, 2, all[:i+1]...))
		s = out.Store
	}
	for _, c := range []change{puts("zz", 2, a), puts("zz", 3, a), puts("ka", 1, a), puts("ka", 4, a), puts("ka", 5, a)} {
		wantStoreCode(t, "beyond the limits", impl.StorePut(s, c.key, c.who, c.set), impl.ErrFull)
	}
	for _, c := range []change{puts("ka", 2, b), puts("kf", 3, b)} {
		want, _ := changed(s, c)
		wantStore(t, "merged at the limits", impl.StorePut(s, c.key, c.who, c.set), want)
	}
	for _, who := range []int64{2, 3} {
		want, _ := changed(s, drops("kb", who))
		less := impl.StoreDrop(s, "kb", who)
		wantStore(t, "dropped at the limits", less, want)
		want, _ = changed(want, puts("zz", who, a))
		wantStore(t, "put behind a drop", impl.StorePut(less.Store, "zz", who, a), want)
		wantStoreCode(t, "the other limit", impl.StorePut(less.Store, "zz", 5-who, a), impl.ErrFull)
	}
}

func TestFullLogs(t *testing.T) {
	for _, size := range []int{18, 19, 40, 53} {
		c := sizedChange(size)
		room := sizedStore(t, impl.MaxBytes-size)
		want, code := changed(room, c)
		if code != impl.OK || len(want.Log) != impl.MaxBytes {
			t.Fatalf("a record of %d bytes: log of %d bytes, code %d", size, len(want.Log), code)
		}
		wantStore(t, "MaxBytes", impl.StorePut(room, c.key, c.who, c.set), want)
		wantStoreCode(t, "one byte more", impl.StorePut(sizedStore(t, impl.MaxBytes-size+1), c.key, c.who, c.set), impl.ErrFull)
	}
	key := sizedChange(40).key
	drop := len(drops(key, 1).text())
	room := sizedStore(t, impl.MaxBytes-drop)
	want, code := changed(room, drops(key, 1))
	if code != impl.OK || len(want.Log) != impl.MaxBytes {
		t.Fatalf("a drop of %d bytes: log of %d bytes, code %d", drop, len(want.Log), code)
	}
	wantStore(t, "MaxBytes with a drop", impl.StoreDrop(room, key, 1), want)
	full := sizedStore(t, impl.MaxBytes-drop+1)
	wantStoreCode(t, "a drop of one byte more", impl.StoreDrop(full, key, 1), impl.ErrFull)
	for _, none := range []change{drops(key, 2), drops("no_such", 1), drops("", 1), drops(key, 0)} {
		wantStoreCode(t, "a drop of no item", impl.StoreDrop(full, none.key, none.who), impl.ErrNone)
	}
	wantStore(t, "a full log that crashes", impl.StoreCrash(want, 0), room)
}

func TestStoreDrop(t *testing.T) {
	s := sampleStore(t)
	s.Synced = int64(len(logText(sampleChanges()[:5])))
	for _, x := range s.Items {
		want, _ := changed(s, drops(x.Key, x.For))
		wantStore(t, "StoreDrop", impl.StoreDrop(s, x.Key, x.For), want)
		wantStoreCode(t, "StoreDrop twice", impl.StoreDrop(want, x.Key, x.For), impl.ErrNone)
	}
	for _, key := range append(notNames(), "a", "b", "carts", strings.Repeat("k", impl.MaxBytes)) {
		wantStoreCode(t, "no such key "+shown(key), impl.StoreDrop(s, key, 2), impl.ErrNone)
	}
	for _, who := range append(wrongNodes(), 4, 5) {
		wantStoreCode(t, "no such For", impl.StoreDrop(s, "cart", who), impl.ErrNone)
	}
	for _, who := range []int64{2, 0} {
		wantStoreCode(t, "a long key", impl.StoreDrop(s, strings.Repeat("k", impl.MaxBytes+1), who), impl.ErrSize)
	}
}

func TestStoreSync(t *testing.T) {
	s := sampleStore(t)
	for i := range len(sampleChanges()) + 1 {
		s.Synced = int64(len(logText(sampleChanges()[:i])))
		wantStore(t, "StoreSync", impl.StoreSync(s), synced(s))
	}
	wantStore(t, "StoreSync of nothing", impl.StoreSync(impl.Store{Node: 3}), impl.Store{Node: 3})
}

func TestStoreCrashKeeps(t *testing.T) {
	changes := sampleChanges()
	s := sampleStore(t)
	for i := range len(changes) + 1 {
		s.Synced = int64(len(logText(changes[:i])))
		none := synced(storeOf(t, 2, changes[:i]...))
		for _, keep := range []int64{0, -1, -s.Synced, -s.Synced - 1, math.MinInt64} {
			wantStore(t, "nothing kept", impl.StoreCrash(s, keep), none)
		}
		rest := int64(len(s.Log)) - s.Synced
		for _, keep := range []int64{rest, rest + 1, impl.MaxBytes, 1 << 32, math.MaxInt64 - 1, math.MaxInt64} {
			wantStore(t, "all kept", impl.StoreCrash(s, keep), synced(s))
		}
		done := i
		for keep := int64(1); keep < rest; keep++ {
			if s.Synced+keep == int64(len(logText(changes[:done+1]))) {
				done++
			}
			wantStore(t, "a part kept", impl.StoreCrash(s, keep), synced(storeOf(t, 2, changes[:done]...)))
		}
	}
}

// someChange puts or drops one of few items, so that items are merged and limits are reached.
func someChange(r *rand.Rand, sets []impl.Set) change {
	key, who := string(rune('a'+r.Intn(5))), int64(1+r.Intn(3))
	if r.Intn(4) == 0 {
		return drops(key, who)
	}
	set := sets[r.Intn(len(sets))]
	for len(set.Seen) == 0 {
		set = sets[r.Intn(len(sets))]
	}
	return puts(key, who, set)
}

// TestStoresHaveWhatTheirLogsYield: every store that results is valid, and a crash leaves what was synced, as another implementation has it.
func TestStoresHaveWhatTheirLogsYield(t *testing.T) {
	sets := someSets()
	codes := map[int64]int{}
	for seed := range int64(12) {
		r := rand.New(rand.NewSource(seed))
		s := impl.Store{Node: 1 + seed%3}
		var done []change
		kept := 0
		for range 120 {
			switch r.Intn(8) {
			case 0:
				s, kept = synced(s), len(done)
				wantStore(t, "synced", impl.StoreSync(s), s)
			case 1:
				if r.Intn(3) > 0 {
					continue
				}
				keep := int64(r.Intn(60))
				kept = keptOf(done, kept, keep)
				old := s
				s = synced(storeOf(t, s.Node, done[:kept]...))
				done = slices.Clone(done[:kept])
				wantStore(t, "crashed", impl.StoreCrash(old, keep), s)
			default:
				c := someChange(r, sets)
				next, code := changed(s, c)
				wantStoreOut(t, "changed", doChange(s, c), impl.StoreOut{Store: next, Code: code})
				codes[code]++
				if code == impl.OK {
					s, done = next, append(done, c)
				}
			}
			wantWhatTheLogYields(t, s)
		}
	}
	if codes[impl.OK] < 100 || codes[impl.ErrNone] < 10 || codes[impl.ErrFull] < 10 {
		t.Errorf("codes: %v", codes)
	}
}

// keptOf is how many changes are complete if keep bytes behind the synced ones are kept.
func keptOf(done []change, kept int, keep int64) int {
	for kept < len(done) && int64(len(done[kept].text())) <= keep {
		keep -= int64(len(done[kept].text()))
		kept++
	}
	return kept
}

func doChange(s impl.Store, c change) impl.StoreOut {
	if c.drop {
		return impl.StoreDrop(s, c.key, c.who)
	}
	return impl.StorePut(s, c.key, c.who, c.set)
}

func wantWhatTheLogYields(t *testing.T, s impl.Store) {
	t.Helper()
	if !impl.StoreRight(s) {
		t.Errorf("not valid: node %d, items %#v, log %s, synced %d", s.Node, s.Items, shown(s.Log), s.Synced)
	}
	wantStore(t, "recovered", impl.Recover(s.Node, s.Log), synced(s))
	for _, x := range s.Items {
		if got := impl.StoreOf(s, x.Key, x.For); !sameSet(got, x.Set) {
			t.Errorf("StoreOf(%s, %d): got %#v, want %#v", x.Key, x.For, got, x.Set)
		}
	}
}

// TestSyncedItemsSurvive puts items, of which the synced ones are there behind any crash.
func TestSyncedItemsSurvive(t *testing.T) {
	s := impl.StoreNew(2).Store
	for _, c := range manyItems(2, 3) {
		s = impl.StorePut(s, c.key, c.who, c.set).Store
	}
	old := impl.StoreSync(s).Store
	late := impl.StorePut(impl.StorePut(old, "late", 2, nodeSet(3, 2)).Store, "ka", 2, nodeSet(2, 2)).Store
	for keep := range int64(len(late.Log) + 2) {
		got := impl.StoreCrash(late, keep).Store
		for _, x := range old.Items {
			if kept := impl.StoreOf(got, x.Key, x.For); !impl.SeenLess(x.Set.Seen, kept.Seen) || !impl.SetHas(kept, impl.Mark{Node: 1, N: 1}) {
				t.Errorf("keep %d: %s is %#v", keep, x.Key, kept)
			}
		}
		if got.Synced != int64(len(got.Log)) || !strings.HasPrefix(late.Log, got.Log) || !strings.HasPrefix(got.Log, old.Log) {
			t.Errorf("keep %d: a log of %d bytes, synced %d", keep, len(got.Log), got.Synced)
		}
	}
}

// roomyStore has room behind all its lists.
func roomyStore(s impl.Store) impl.Store {
	items := make([]impl.Item, 0, 20)
	for _, x := range s.Items {
		items = append(items, impl.Item{Key: x.Key, For: x.For, Set: roomy(x.Set)})
	}
	s.Items = items
	return s
}

func spoilStore(s impl.Store) {
	for i := range s.Items {
		spoil(s.Items[i].Set)
		s.Items[i] = impl.Item{Key: "spoiled"}
	}
}

func wantUntouchedStore(t *testing.T, what string, s impl.Store, want impl.Store) {
	t.Helper()
	wantStore(t, what, impl.StoreOut{Store: s}, want)
	for i, x := range s.Items {
		wantUntouched(t, what, x.Set, want.Items[i].Set)
	}
	for _, x := range s.Items[len(s.Items):cap(s.Items)] {
		if !sameItem(x, impl.Item{}) {
			t.Errorf("%s: changed behind its end: %#v", what, x)
		}
	}
}

func TestStoresAreNewMemory(t *testing.T) {
	for what, operation := range map[string]func(s impl.Store, x impl.Set) impl.StoreOut{
		"put a new item":  func(s impl.Store, x impl.Set) impl.StoreOut { return impl.StorePut(s, "b", 2, x) },
		"put at the end":  func(s impl.Store, x impl.Set) impl.StoreOut { return impl.StorePut(s, "zz", 2, x) },
		"put to an item":  func(s impl.Store, x impl.Set) impl.StoreOut { return impl.StorePut(s, "cart", 2, x) },
		"put to a hint":   func(s impl.Store, x impl.Set) impl.StoreOut { return impl.StorePut(s, "z_9", 5, x) },
		"put for no node": func(s impl.Store, x impl.Set) impl.StoreOut { return impl.StorePut(s, "cart", 6, x) },
		"drop the first":  func(s impl.Store, x impl.Set) impl.StoreOut { return impl.StoreDrop(s, "car", 2) },
		"drop the last":   func(s impl.Store, x impl.Set) impl.StoreOut { return impl.StoreDrop(s, "z_9", 5) },
		"drop nothing":    func(s impl.Store, x impl.Set) impl.StoreOut { return impl.StoreDrop(s, "zz", 5) },
		"sync":            func(s impl.Store, x impl.Set) impl.StoreOut { return impl.StoreSync(s) },
		"crash":           func(s impl.Store, x impl.Set) impl.StoreOut { return impl.StoreCrash(s, 60) },
		"crash, all kept": func(s impl.Store, x impl.Set) impl.StoreOut { return impl.StoreCrash(s, impl.MaxBytes) },
		"look": func(s impl.Store, x impl.Set) impl.StoreOut {
			return impl.StoreOut{Store: impl.Store{Items: []impl.Item{{Set: impl.StoreOf(s, "cart", 2)}}}}
		},
	} {
		oldStore, oldSet := sampleStore(t), nodeSet(4, 3)
		s, x := roomyStore(oldStore), roomy(oldSet)
		got := operation(s, x)
		wantUntouchedStore(t, what, s, oldStore)
		wantUntouched(t, what, x, oldSet)
		want := impl.StoreOut{Store: roomyStore(got.Store), Code: got.Code}
		spoilStore(s)
		spoil(x)
		wantStoreOut(t, what+", arguments spoiled", got, want)
		s, x = roomyStore(oldStore), roomy(oldSet)
		spoilStore(operation(s, x).Store)
		wantUntouchedStore(t, what+", result spoiled", s, oldStore)
		wantUntouched(t, what+", result spoiled", x, oldSet)
	}
}

// TestItemsShareNoMemory puts one Set twice and spoils one of the items.
func TestItemsShareNoMemory(t *testing.T) {
	x := nodeSet(4, 3)
	s := impl.StorePut(impl.StorePut(impl.StoreNew(1).Store, "a", 1, x).Store, "b", 1, x).Store
	for _, out := range []impl.StoreOut{{Store: s}, impl.Recover(1, s.Log), impl.StoreSync(s), impl.StoreCrash(s, impl.MaxBytes)} {
		spoil(out.Store.Items[0].Set)
		if !sameSet(out.Store.Items[1].Set, nodeSet(4, 3)) {
			t.Errorf("got %#v", out.Store.Items[1])
		}
	}
}
