package tests

import (
	"fmt"
	"hash/fnv"
	"math"
	"slices"
	"strings"
	"testing"

	"loop.example/g00659/impl"
)

func fnvOf(text string) int64 {
	h := fnv.New32a()
	h.Write([]byte(text))
	return int64(h.Sum32())
}

// ringOf follows the document also for numbers beyond the limits.
func ringOf(nodes int64, each int64) impl.Ring {
	var l []impl.Token
	for node := int64(1); node <= nodes; node++ {
		l = append(l, tokensOf(node, each)...)
	}
	sortTokens(l)
	return impl.Ring{Nodes: nodes, Tokens: l}
}

func tokensOf(node int64, each int64) []impl.Token {
	var l []impl.Token
	for i := int64(1); i <= each; i++ {
		l = append(l, impl.Token{Hash: fnvOf(fmt.Sprintf("%d-%d", node, i)), Node: node})
	}
	return l
}

func sortTokens(l []impl.Token) {
	slices.SortFunc(l, func(a impl.Token, b impl.Token) int {
		if a.Hash != b.Hash {
			return int(a.Hash - b.Hash)
		}
		return int(a.Node - b.Node)
	})
}

func allRings() []impl.Ring {
	var l []impl.Ring
	for nodes := int64(1); nodes <= impl.MaxNodes; nodes++ {
		for each := int64(1); each <= impl.MaxEach; each++ {
			l = append(l, ringOf(nodes, each))
		}
	}
	return l
}

// someRings are those with the fewest and the most tokens, and ones between.
func someRings() []impl.Ring {
	return []impl.Ring{ringOf(1, 1), ringOf(1, 8), ringOf(2, 3), ringOf(3, 1), ringOf(3, 2), ringOf(4, 4), ringOf(5, 1), ringOf(5, 8)}
}

// changedTokens has lists of tokens that differ from those of a ring in one way each.
func changedTokens(l []impl.Token) [][]impl.Token {
	first, last := l[0], l[len(l)-1]
	out := [][]impl.Token{nil, {}, append(slices.Clone(l), impl.Token{}), append([]impl.Token{{}}, l...),
		append(slices.Clone(l), impl.Token{Hash: last.Hash + 1, Node: last.Node}), append(slices.Clone(l), first),
		append([]impl.Token{{Hash: first.Hash - 1, Node: first.Node}}, l...), append(slices.Clone(l), l...)}
	for i, x := range l {
		out = append(out, slices.Delete(slices.Clone(l), i, i+1), slices.Insert(slices.Clone(l), i, x))
		for _, y := range []impl.Token{{}, {Hash: x.Hash + 1, Node: x.Node}, {Hash: x.Hash - 1, Node: x.Node}, {Hash: -x.Hash, Node: x.Node},
			{Hash: x.Hash + 1<<32, Node: x.Node}, {Node: x.Node}, {Hash: x.Hash, Node: x.Node + 1}, {Hash: x.Hash, Node: x.Node - 1}, {Hash: x.Hash}} {
			changed := slices.Clone(l)
			changed[i] = y
			out = append(out, changed)
		}
		for j := range i {
			swapped := slices.Clone(l)
			swapped[i], swapped[j] = l[j], x
			out = append(out, swapped)
		}
	}
	return out
}

func isRing(r impl.Ring) bool {
	return slices.ContainsFunc(allRings(), func(x impl.Ring) bool { return sameRing(x, r) })
}

// notRings has rings that are no RingNew. Without one of its tokens a ring of one node may be another ring.
func notRings() []impl.Ring {
	uneven := append(append(tokensOf(1, 2), tokensOf(2, 4)...), tokensOf(3, 3)...)
	sortTokens(uneven)
	l := []impl.Ring{{}, ringOf(1, impl.MaxEach+1), ringOf(impl.MaxNodes, impl.MaxEach+1), ringOf(impl.MaxNodes+1, 1),
		ringOf(impl.MaxNodes+1, impl.MaxEach), ringOf(1, impl.MaxList+1), ringOf(5, impl.MaxList), {Nodes: 3, Tokens: uneven}}
	for _, r := range someRings() {
		for _, tokens := range changedTokens(r.Tokens) {
			l = append(l, impl.Ring{Nodes: r.Nodes, Tokens: tokens})
		}
		for _, nodes := range []int64{math.MinInt64, -r.Nodes, -1, 0, 1, 2, 3, 4, 5, 6, r.Nodes * 2, r.Nodes + 1<<32, math.MaxInt64} {
			if nodes != r.Nodes {
				l = append(l, impl.Ring{Nodes: nodes, Tokens: r.Tokens}, impl.Ring{Nodes: nodes})
			}
		}
	}
	return slices.DeleteFunc(l, isRing)
}

const nameBytes = "abcdefghijklmnopqrstuvwxyz0123456789_"

// wordsOf has all strings of size bytes that may occur in a name.
func wordsOf(size int) []string {
	if size == 0 {
		return []string{""}
	}
	var l []string
	for _, word := range wordsOf(size - 1) {
		for _, b := range nameBytes {
			l = append(l, word+string(b))
		}
	}
	return l
}

// namesWithHashes has a name for each of the hashes. A step of the hash can be undone, so that from a hash one returns to that of a short name.
func namesWithHashes(hashes []int64) []string {
	starts := map[uint32]string{}
	for _, word := range wordsOf(3) {
		if word[0] >= 'a' && word[0] <= 'z' {
			starts[uint32(fnvOf(word))] = word
		}
	}
	undo := uint32(1)
	for undo*16777619 != 1 {
		undo *= 2 - undo*16777619
	}
	ends := wordsOf(4)
	var l []string
	for _, hash := range hashes {
		for _, end := range ends {
			h := uint32(hash)
			for i := len(end) - 1; i >= 0; i-- {
				h = h*undo ^ uint32(end[i])
			}
			if start, ok := starts[h]; ok {
				l = append(l, start+end)
				break
			}
		}
	}
	return l
}

// edgeKeys have the hash of each token of the largest ring, one less and one more, and the least and the greatest hash.
func edgeKeys(t *testing.T) []string {
	hashes := []int64{0, math.MaxUint32}
	for _, x := range ringOf(impl.MaxNodes, impl.MaxEach).Tokens {
		hashes = append(hashes, x.Hash-1, x.Hash, x.Hash+1)
	}
	l := namesWithHashes(hashes)
	for i, hash := range hashes {
		if i >= len(l) || fnvOf(l[i]) != hash {
			t.Fatalf("no name with the hash %d was found", hash)
		}
	}
	return l
}

func someKeys() []string {
	return []string{"a", "x", "cart", "zz9", "b_", "k0", "abcdefghij0123456789"}
}

func notKeys() []string {
	return []string{"", "_", "_a", "1", "9a", "A", "aB", "a-b", "1-1", "a b", "a\n", "\x00", "\xe4", "a\xff",
		"abcdefghij01234567890", strings.Repeat("a", impl.MaxBytes), strings.Repeat("a", impl.MaxBytes+1)}
}

// orderOf sorts the nodes by the way from the key to the nearest of their tokens.
func orderOf(r impl.Ring, key string) []int64 {
	way := map[int64]uint32{}
	for _, x := range r.Tokens {
		w := uint32(x.Hash - fnvOf(key))
		if old, ok := way[x.Node]; !ok || w < old {
			way[x.Node] = w
		}
	}
	var l []int64
	for node := range r.Nodes {
		l = append(l, node+1)
	}
	slices.SortStableFunc(l, func(a int64, b int64) int {
		return int(int64(way[a]) - int64(way[b]))
	})
	return l
}

func standInsOf(order []int64, n int64, down []int64) []int64 {
	var free, l []int64
	for i, node := range order {
		if int64(i) >= n && !slices.Contains(down, node) {
			free = append(free, node)
		}
	}
	for i, node := range order {
		if int64(i) >= n {
			break
		}
		if !slices.Contains(down, node) {
			l = append(l, node)
		} else if len(free) > 0 {
			l = append(l, free[0])
			free = free[1:]
		}
	}
	return l
}

// allDowns has every list of nodes that may be down.
func allDowns() [][]int64 {
	var l [][]int64
	for chosen := range 1 << impl.MaxNodes {
		var down []int64
		for node := range int64(impl.MaxNodes) {
			if chosen>>node&1 == 1 {
				down = append(down, node+1)
			}
		}
		l = append(l, down)
	}
	return l
}

func notDowns() [][]int64 {
	l := [][]int64{{1, 1}, {5, 5}, {2, 1}, {5, 4}, {1, 3, 2}, {1, 2, 2}, {1, 1, 2}, {5, 1}, {0}, {6}, {-1}, {0, 1}, {0, 1, 2}, {4, 6}, {1, 0},
		{1, 2, 3, 4, 5, 6}, {0, 1, 2, 3, 4, 5}, {1, 2, 3, 4, 5, 5}, {5, 4, 3, 2, 1}, {-5, -4}, {1, -2}, {math.MinInt64}, {math.MaxInt64},
		{math.MinInt64, 1}, {1, math.MaxInt64}, {1 + 1<<32}, make([]int64, impl.MaxList), make([]int64, impl.MaxList+1),
		slices.Repeat([]int64{1}, impl.MaxList), slices.Repeat([]int64{1}, impl.MaxList+1)}
	for _, size := range []int64{impl.MaxList, impl.MaxList + 1} {
		var rising []int64
		for i := range size {
			rising = append(rising, i+1)
		}
		l = append(l, rising)
	}
	return l
}

func wrongCounts() []int64 {
	return []int64{math.MinInt64, -5, -1, 0, impl.MaxNodes + 1, impl.MaxNodes + 2, 1 + 1<<32, math.MaxInt64}
}

func sameRing(a impl.Ring, b impl.Ring) bool {
	return a.Nodes == b.Nodes && slices.Equal(a.Tokens, b.Tokens)
}

func wantNodes(t *testing.T, what string, got []int64, want []int64) {
	t.Helper()
	if !slices.Equal(got, want) {
		t.Errorf("%s: got %v, want %v", what, got, want)
	}
}

func wantNoNodes(t *testing.T, what string, got []int64) {
	t.Helper()
	wantNodes(t, what, got, nil)
}

func TestFnv(t *testing.T) {
	for text, want := range map[string]int64{"": 2166136261, "a": 3826002220, "foobar": 3214735720, "1-1": 3829387862, "cart": 2552722063} {
		if got := impl.Fnv(text); got != want {
			t.Errorf("Fnv(%q): got %d, want %d", text, got, want)
		}
	}
	texts := []string{"\x00", "\x7f", "\x80", "\xff", "\x80\x80", "\xff\xff\xff\xff", "a\xe4b", "\u00e4\u20ac", "\xc3", "a\x00", "\x00a",
		strings.Repeat("\x00", impl.MaxBytes), strings.Repeat("\xff", impl.MaxBytes), strings.Repeat("a", impl.MaxBytes-1), someText(impl.MaxBytes)}
	for b := range 256 {
		texts = append(texts, string([]byte{byte(b)}), string([]byte{'x', byte(b), 200}))
	}
	for size := range 300 {
		texts = append(texts, someText(size))
	}
	for _, text := range texts {
		if got, want := impl.Fnv(text), fnvOf(text); got != want {
			t.Errorf("Fnv(%s): got %d, want %d", shown(text), got, want)
		}
	}
	for _, text := range []string{strings.Repeat("\x00", impl.MaxBytes+1), strings.Repeat("a", impl.MaxBytes+1), someText(2 * impl.MaxBytes)} {
		if got := impl.Fnv(text); got != 0 {
			t.Errorf("Fnv(%s): got %d", shown(text), got)
		}
	}
}

func TestRingNewExamples(t *testing.T) {
	if impl.MaxEach != 8 {
		t.Errorf("MaxEach is %d", impl.MaxEach)
	}
	want := impl.Ring{Nodes: 3, Tokens: []impl.Token{{Hash: 3071713563, Node: 2}, {Hash: 3088491182, Node: 2}, {Hash: 3527966820, Node: 3},
		{Hash: 3578299677, Node: 3}, {Hash: 3812610243, Node: 1}, {Hash: 3829387862, Node: 1}}}
	if got := impl.RingNew(3, 2); got.Code != impl.OK || !sameRing(got.Ring, want) {
		t.Errorf("RingNew(3, 2): got %v", got)
	}
	one := impl.Ring{Nodes: 1, Tokens: []impl.Token{{Hash: 3829387862, Node: 1}}}
	if got := impl.RingNew(1, 1); got.Code != impl.OK || !sameRing(got.Ring, one) {
		t.Errorf("RingNew(1, 1): got %v", got)
	}
}

func TestRingNew(t *testing.T) {
	numbers := []int64{math.MinInt64, -8, -1, 0, 1, 2, 3, 4, 5, 6, 7, 8, 9, 10, 1 + 1<<32, math.MaxInt64}
	for _, nodes := range numbers {
		for _, each := range numbers {
			got := impl.RingNew(nodes, each)
			want := impl.RingOut{Code: impl.ErrForm}
			if nodes >= 1 && nodes <= 5 && each >= 1 && each <= 8 {
				want = impl.RingOut{Ring: ringOf(nodes, each)}
			}
			if got.Code != want.Code || !sameRing(got.Ring, want.Ring) {
				t.Errorf("RingNew(%d, %d): got %v, want %v", nodes, each, got, want)
			}
		}
	}
}

func TestRingRight(t *testing.T) {
	for _, r := range allRings() {
		if !impl.RingRight(r) {
			t.Errorf("RingRight(%v) is false", r)
		}
	}
	for _, r := range notRings() {
		if impl.RingRight(r) {
			t.Errorf("RingRight of %d nodes and %d tokens is true", r.Nodes, len(r.Tokens))
		}
	}
}

func TestOrderExamples(t *testing.T) {
	r := impl.RingNew(3, 2).Ring
	wantNodes(t, "a", impl.Order(r, "a"), []int64{1, 2, 3})
	wantNodes(t, "cart", impl.Order(r, "cart"), []int64{2, 3, 1})
	wantNodes(t, "x, behind all tokens", impl.Order(r, "x"), []int64{2, 3, 1})
	wantNodes(t, "x on one node", impl.Order(impl.RingNew(1, 8).Ring, "x"), []int64{1})
	wantNodes(t, "zz9 on five nodes", impl.Order(impl.RingNew(5, 8).Ring, "zz9"), []int64{1, 4, 2, 5, 3})
}

func TestStandInExamples(t *testing.T) {
	r := impl.RingNew(3, 2).Ring
	wantNodes(t, "none down", impl.StandIns(r, "cart", 2, nil), []int64{2, 3})
	wantNodes(t, "the first owner down", impl.StandIns(r, "cart", 2, []int64{2}), []int64{1, 3})
	wantNodes(t, "the second owner down", impl.StandIns(r, "cart", 2, []int64{3}), []int64{2, 1})
	wantNodes(t, "no owner down", impl.StandIns(r, "cart", 2, []int64{1}), []int64{2, 3})
	wantNodes(t, "none behind the owners", impl.StandIns(r, "cart", 3, []int64{2}), []int64{3, 1})
	wantNodes(t, "one for two", impl.StandIns(r, "cart", 2, []int64{2, 3}), []int64{1})
	wantNodes(t, "the stand-in down too", impl.StandIns(r, "cart", 2, []int64{1, 2}), []int64{3})
	wantNodes(t, "down beyond the ring", impl.StandIns(r, "cart", 2, []int64{4, 5}), []int64{2, 3})
	wantNodes(t, "all down", impl.StandIns(r, "cart", 3, []int64{1, 2, 3}), nil)
	five := impl.RingNew(5, 8).Ring
	wantNodes(t, "two for two", impl.StandIns(five, "zz9", 3, []int64{1, 2}), []int64{5, 4, 3})
	wantNodes(t, "one skipped", impl.StandIns(five, "zz9", 3, []int64{4, 5}), []int64{1, 3, 2})
	wantNodes(t, "owners behind one without a stand-in", impl.StandIns(five, "zz9", 4, []int64{1, 3}), []int64{4, 2, 5})
	wantNodes(t, "the first gets the only one", impl.StandIns(five, "zz9", 4, []int64{1, 2}), []int64{3, 4, 5})
}

// Promise 6.

func TestOrderHasEachNodeOnce(t *testing.T) {
	keys := append(edgeKeys(t), someKeys()...)
	for _, r := range allRings() {
		for _, key := range keys {
			got := impl.Order(r, key)
			what := fmt.Sprintf("Order of %q among %d nodes, %d tokens", key, r.Nodes, len(r.Tokens))
			wantNodes(t, what, got, orderOf(r, key))
			slices.Sort(got)
			for i, node := range got {
				if node != int64(i)+1 {
					t.Fatalf("%s has the nodes %v", what, got)
				}
			}
			if int64(len(got)) != r.Nodes {
				t.Fatalf("%s has the nodes %v", what, got)
			}
		}
	}
}

func TestOwnersAreTheFirst(t *testing.T) {
	for _, r := range allRings() {
		for _, key := range someKeys() {
			order := impl.Order(r, key)
			for n := int64(1); n <= impl.MaxNodes; n++ {
				what := fmt.Sprintf("%d Owners of %q among %d nodes, %d tokens", n, key, r.Nodes, len(r.Tokens))
				wantNodes(t, what, impl.Owners(r, key, n), order[:min(n, r.Nodes)])
			}
		}
	}
}

func TestStandInsAreUpAndDifferent(t *testing.T) {
	for _, r := range allRings() {
		for _, key := range someKeys() {
			order := orderOf(r, key)
			for n := int64(1); n <= impl.MaxNodes; n++ {
				for _, down := range allDowns() {
					got := impl.StandIns(r, key, n, down)
					what := fmt.Sprintf("%d StandIns of %q among %d nodes, %v down", n, key, r.Nodes, down)
					wantNodes(t, what, got, standInsOf(order, n, down))
					for i, node := range got {
						if slices.Contains(down, node) || slices.Contains(got[:i], node) || !slices.Contains(order, node) {
							t.Fatalf("%s: got %v", what, got)
						}
					}
				}
			}
		}
	}
}

func TestNodesOfInvalidRings(t *testing.T) {
	for _, r := range notRings() {
		what := fmt.Sprintf("of %d nodes and %d tokens", r.Nodes, len(r.Tokens))
		wantNoNodes(t, "Order "+what, impl.Order(r, "x"))
		wantNoNodes(t, "Owners "+what, impl.Owners(r, "x", 2))
		wantNoNodes(t, "StandIns "+what, impl.StandIns(r, "x", 2, nil))
		wantNoNodes(t, "StandIns with one down "+what, impl.StandIns(r, "x", 1, []int64{1}))
	}
}

func TestNodesOfInvalidKeys(t *testing.T) {
	for _, r := range someRings() {
		for _, key := range notKeys() {
			wantNoNodes(t, "Order of "+shown(key), impl.Order(r, key))
			wantNoNodes(t, "Owners of "+shown(key), impl.Owners(r, key, 2))
			wantNoNodes(t, "StandIns of "+shown(key), impl.StandIns(r, key, 2, nil))
			wantNoNodes(t, "StandIns with one down of "+shown(key), impl.StandIns(r, key, 1, []int64{1}))
		}
	}
}

func TestNodesOfInvalidCounts(t *testing.T) {
	for _, r := range someRings() {
		for _, n := range wrongCounts() {
			wantNoNodes(t, fmt.Sprintf("%d Owners", n), impl.Owners(r, "x", n))
			for _, down := range append(allDowns(), notDowns()...) {
				wantNoNodes(t, fmt.Sprintf("%d StandIns", n), impl.StandIns(r, "x", n, down))
			}
		}
	}
}

func TestStandInsOfInvalidDown(t *testing.T) {
	for _, r := range someRings() {
		for n := int64(1); n <= impl.MaxNodes; n++ {
			for _, down := range notDowns() {
				what := fmt.Sprintf("%d StandIns of %d nodes, %d down, the first %d", n, r.Nodes, len(down), down[0])
				wantNoNodes(t, what, impl.StandIns(r, "x", n, down))
			}
		}
	}
}

func TestRingIsNewMemory(t *testing.T) {
	first := impl.RingNew(4, 4).Ring
	clear(first.Tokens)
	if r := impl.RingNew(4, 4).Ring; !sameRing(r, ringOf(4, 4)) {
		t.Errorf("RingNew after a change of its result: got %v", r)
	}
	r := ringOf(4, 4)
	// With room behind it an append to an argument would not move it.
	r.Tokens = append(make([]impl.Token, 0, 20), r.Tokens...)
	down := append(make([]int64, 0, 5), 1, 3)
	for _, call := range []func() []int64{
		func() []int64 { return impl.Order(r, "x") },
		func() []int64 { return impl.Owners(r, "x", 2) },
		func() []int64 { return impl.StandIns(r, "x", 2, down) },
		func() []int64 { return impl.StandIns(r, "x", 5, down) },
	} {
		want := slices.Clone(call())
		got := call()
		for i := range got {
			got[i] = 9
		}
		wantNodes(t, "the same call after a change of its result", call(), want)
		wantNodes(t, "down", down[:5], []int64{1, 3, 0, 0, 0})
		if !sameRing(r, ringOf(4, 4)) || slices.ContainsFunc(r.Tokens[16:20], func(x impl.Token) bool { return x != impl.Token{} }) {
			t.Errorf("the ring was changed: %v", r)
		}
	}
}
