package tests

import (
	"fmt"
	"math"
	"math/rand"
	"slices"
	"strings"
	"testing"

	"loop.example/g00659/impl"
)

// place is a node that keeps a key, and the owner for which it does.
type place struct {
	node  int64
	owner int64
}

func (p place) own() bool {
	return p.node == p.owner
}

// placesOf is the list of a key, from the order of its nodes.
func placesOf(c impl.Cluster, key string) []place {
	order := orderOf(c.Ring, key)
	isDown := func(node int64) bool { return slices.Contains(c.Down, node) }
	free := slices.DeleteFunc(slices.Clone(order[c.N:]), isDown)
	var l []place
	for _, owner := range order[:c.N] {
		if !isDown(owner) {
			l = append(l, place{owner, owner})
		} else if len(free) > 0 {
			l = append(l, place{free[0], owner})
			free = free[1:]
		}
	}
	return l
}

func reached(list []place, lost []int64) []place {
	var l []place
	for i, p := range list {
		if i >= len(lost) || lost[i] < 1 {
			l = append(l, p)
		}
	}
	return l
}

func heldAt(c impl.Cluster, key string, p place) impl.Set {
	s := c.Stores[p.node-1]
	if at := itemAt(s, key, p.owner); at >= 0 {
		return s.Items[at].Set
	}
	return impl.Set{}
}

// ownCluster has lists of stores and nodes of its own.
func ownCluster(c impl.Cluster) impl.Cluster {
	c.Stores = slices.Clone(c.Stores)
	c.Down = slices.Clone(c.Down)
	return c
}

// keepAt changes and syncs a store, and leaves it as it is beside an error.
func keepAt(c impl.Cluster, node int64, x change) int64 {
	next, code := changed(c.Stores[node-1], x)
	if code == impl.OK {
		c.Stores[node-1] = synced(next)
	}
	return code
}

// wrote is a call of Put without its cluster.
type wrote struct {
	key  string
	seen []impl.Mark
	data string
	gone bool
	lost []int64
}

func (w wrote) at(c impl.Cluster) impl.ClusterOut {
	return impl.Put(c, w.key, w.seen, w.data, w.gone, w.lost)
}

// model is what Put returns for a valid cluster and arguments within the size limits.
func (w wrote) model(c impl.Cluster) impl.ClusterOut {
	if !impl.NameRight(w.key) {
		return impl.ClusterOut{Code: impl.ErrForm}
	}
	list := placesOf(c, w.key)
	first := slices.IndexFunc(list, place.own)
	if first < 0 {
		return impl.ClusterOut{Code: impl.ErrDown}
	}
	if !impl.SeenRight(w.seen) || len(w.data) > 16 || w.gone && w.data != "" {
		return impl.ClusterOut{Code: impl.ErrForm}
	}
	out := putOf(heldAt(c, w.key, list[first]), w.seen, list[first].node, w.data, w.gone)
	if out.Code != impl.OK {
		return impl.ClusterOut{Code: out.Code}
	}
	c = ownCluster(c)
	if code := keepAt(c, list[first].node, puts(w.key, list[first].node, out.Set)); code != impl.OK {
		return impl.ClusterOut{Code: code}
	}
	answers := int64(1)
	for _, p := range reached(list, w.lost) {
		if p != list[first] && keepAt(c, p.node, puts(w.key, p.owner, out.Set)) == impl.OK {
			answers++
		}
	}
	if answers < c.W {
		return impl.ClusterOut{Cluster: c, Set: out.Set, Code: impl.ErrFew}
	}
	return impl.ClusterOut{Cluster: c, Set: out.Set}
}

// getModel is what Get returns for a valid cluster and arguments within the size limits.
func getModel(c impl.Cluster, key string, lost []int64) impl.ClusterOut {
	if !impl.NameRight(key) {
		return impl.ClusterOut{Code: impl.ErrForm}
	}
	list := reached(placesOf(c, key), lost)
	if int64(len(list)) < c.R {
		return impl.ClusterOut{Code: impl.ErrFew}
	}
	var set impl.Set
	for _, p := range list {
		out := syncOf(set, heldAt(c, key, p))
		if out.Code != impl.OK {
			return impl.ClusterOut{Code: out.Code}
		}
		set = out.Set
	}
	c = ownCluster(c)
	for _, p := range list {
		if len(set.Seen) > 0 && !sameSet(heldAt(c, key, p), set) {
			keepAt(c, p.node, puts(key, p.owner, set))
		}
	}
	return impl.ClusterOut{Cluster: c, Set: set}
}

func hasNode(c impl.Cluster, node int64) bool {
	return node >= 1 && node <= int64(len(c.Stores))
}

// downModel is what GoDown returns for a valid cluster.
func downModel(t *testing.T, c impl.Cluster, node int64, keep int64) impl.ClusterOut {
	t.Helper()
	if !hasNode(c, node) {
		return impl.ClusterOut{Code: impl.ErrNone}
	}
	if slices.Contains(c.Down, node) {
		return impl.ClusterOut{Code: impl.ErrState}
	}
	c = ownCluster(c)
	c.Down = append(c.Down, node)
	slices.Sort(c.Down)
	out := impl.StoreCrash(c.Stores[node-1], keep)
	if out.Code != impl.OK {
		t.Fatalf("StoreCrash: code %d", out.Code)
	}
	c.Stores[node-1] = out.Store
	return impl.ClusterOut{Cluster: c}
}

// upModel is what GoUp returns for a valid cluster.
func upModel(c impl.Cluster, node int64) impl.ClusterOut {
	if !hasNode(c, node) {
		return impl.ClusterOut{Code: impl.ErrNone}
	}
	at := slices.Index(c.Down, node)
	if at < 0 {
		return impl.ClusterOut{Code: impl.ErrState}
	}
	c = ownCluster(c)
	c.Down = slices.Delete(c.Down, at, at+1)
	return impl.ClusterOut{Cluster: c}
}

// handoffModel is what Handoff returns for a valid cluster.
func handoffModel(c impl.Cluster, node int64) impl.ClusterOut {
	if !hasNode(c, node) {
		return impl.ClusterOut{Code: impl.ErrNone}
	}
	if slices.Contains(c.Down, node) {
		return impl.ClusterOut{Code: impl.ErrDown}
	}
	c = ownCluster(c)
	for _, x := range c.Stores[node-1].Items {
		if x.For == node || !hasNode(c, x.For) || slices.Contains(c.Down, x.For) {
			continue
		}
		if keepAt(c, x.For, puts(x.Key, x.For, x.Set)) == impl.OK {
			keepAt(c, node, drops(x.Key, x.For))
		}
	}
	return impl.ClusterOut{Cluster: c}
}

func allHints(c impl.Cluster) int64 {
	count := 0
	for _, s := range c.Stores {
		count += hintsOf(s)
	}
	return int64(count)
}

func sameStore(a impl.Store, b impl.Store) bool {
	return a.Node == b.Node && a.Log == b.Log && a.Synced == b.Synced && slices.EqualFunc(a.Items, b.Items, sameItem)
}

func sameCluster(a impl.Cluster, b impl.Cluster) bool {
	return sameRing(a.Ring, b.Ring) && slices.EqualFunc(a.Stores, b.Stores, sameStore) && slices.Equal(a.Down, b.Down) &&
		a.N == b.N && a.R == b.R && a.W == b.W
}

// clusterText leaves out what reports need not show.
func clusterText(c impl.Cluster) string {
	text := fmt.Sprintf("%d nodes, N %d, R %d, W %d, down %v", c.Ring.Nodes, c.N, c.R, c.W, c.Down)
	for _, s := range c.Stores {
		text += fmt.Sprintf("; node %d: %#v, log of %d bytes, synced %d", s.Node, s.Items, len(s.Log), s.Synced)
	}
	return text
}

func wantClusterOut(t *testing.T, what string, got impl.ClusterOut, want impl.ClusterOut) {
	t.Helper()
	if got.Code != want.Code || !sameSet(got.Set, want.Set) || !sameCluster(got.Cluster, want.Cluster) {
		t.Errorf("%s: got code %d, Set %#v, %s\nwant code %d, Set %#v, %s", what,
			got.Code, got.Set, clusterText(got.Cluster), want.Code, want.Set, clusterText(want.Cluster))
	}
}

func wantCluster(t *testing.T, what string, got impl.ClusterOut, want impl.Cluster) {
	t.Helper()
	wantClusterOut(t, what, got, impl.ClusterOut{Cluster: want})
}

func wantClusterCode(t *testing.T, what string, got impl.ClusterOut, code int64) {
	t.Helper()
	wantClusterOut(t, what, got, impl.ClusterOut{Code: code})
}

// clusterOf has the given stores, and empty ones of the other nodes.
func clusterOf(nodes int64, n int64, r int64, w int64, stores ...impl.Store) impl.Cluster {
	c := impl.Cluster{Ring: ringOf(nodes, 4), N: n, R: r, W: w}
	for node := range nodes {
		c.Stores = append(c.Stores, impl.Store{Node: node + 1})
	}
	for _, s := range stores {
		c.Stores[s.Node-1] = s
	}
	return c
}

// goneDown has other nodes down, with their stores as they are.
func goneDown(c impl.Cluster, down ...int64) impl.Cluster {
	slices.Sort(down)
	c.Down = down
	return c
}

// shapes has every valid number of nodes, N, R and W.
func shapes() []impl.Cluster {
	var l []impl.Cluster
	for nodes := int64(1); nodes <= impl.MaxNodes; nodes++ {
		for n := int64(1); n <= nodes; n++ {
			for r := int64(1); r <= n; r++ {
				for w := int64(1); w <= n; w++ {
					l = append(l, clusterOf(nodes, n, r, w))
				}
			}
		}
	}
	return l
}

func TestClusterExamples(t *testing.T) {
	c := impl.ClusterNew(3, 2, 2, 2).Cluster
	few := impl.Put(c, "cart", nil, "x", false, []int64{0, 1})
	if few.Code != impl.ErrFew || len(few.Cluster.Stores) != 3 || !slices.Equal(impl.Values(few.Set), []string{"x"}) {
		t.Errorf("Put, the second element lost: got code %d, Set %#v, %s", few.Code, few.Set, clusterText(few.Cluster))
	}
	wantClusterCode(t, "Get, the second element lost", impl.Get(c, "cart", []int64{0, 1}), impl.ErrFew)

	order := orderOf(c.Ring, "cart")
	first, standIn := order[0], order[2]
	x := impl.Put(c, "cart", nil, "x", false, nil).Cluster
	y := impl.Put(impl.GoDown(x, first, 0).Cluster, "cart", nil, "y", false, nil).Cluster
	if got := impl.Hints(y); got != 1 {
		t.Errorf("%d hints after the write, want 1", got)
	}
	end := impl.Handoff(impl.GoUp(y, first).Cluster, standIn).Cluster
	if got := impl.Hints(end); got != 0 {
		t.Errorf("%d hints after the handoff, want 0", got)
	}
	values := impl.Values(impl.StoreOf(end.Stores[first-1], "cart", first))
	slices.Sort(values)
	if !slices.Equal(values, []string{"x", "y"}) {
		t.Errorf("the owner has %q", values)
	}
}

func TestClusterNew(t *testing.T) {
	numbers := []int64{math.MinInt64, -1, 0, 1, 2, 3, 4, 5, 6, 7, 1<<32 + 1, math.MaxInt64}
	for _, nodes := range numbers {
		for _, n := range numbers {
			for _, r := range numbers {
				for _, w := range numbers {
					got := impl.ClusterNew(nodes, n, r, w)
					what := fmt.Sprintf("ClusterNew(%d, %d, %d, %d)", nodes, n, r, w)
					if nodes < 1 || nodes > 5 || n < 1 || n > nodes || r < 1 || r > n || w < 1 || w > n {
						wantClusterCode(t, what, got, impl.ErrForm)
					} else {
						wantCluster(t, what, got, clusterOf(nodes, n, r, w))
					}
				}
			}
		}
	}
}

// sampleCluster has four nodes, node 3 of them down, with items, hints and unsynced records.
func sampleCluster(t *testing.T) impl.Cluster {
	t.Helper()
	own := storeOf(t, 1, puts("cart", 1, nodeSet(2, 3)), puts("cart", 3, oneSet(1, "x")), puts("b", 1, nodeSet(1, 2)))
	down := storeOf(t, 3, puts("cart", 3, nodeSet(3, 1)), puts("z_9", 5, nodeSet(4, 2)))
	down.Synced = int64(len(puts("cart", 3, nodeSet(3, 1)).text()))
	last := storeOf(t, 4, puts("a", 2, oneSet(2, "y")), puts("b", 2, nodeSet(4, 2)), puts("b", 3, nodeSet(4, 1)))
	return goneDown(clusterOf(4, 3, 2, 2, synced(own), synced(sampleStore(t)), down, synced(last)), 3)
}

// changedCluster is the sample with one change.
func changedCluster(t *testing.T, change func(c *impl.Cluster)) impl.Cluster {
	t.Helper()
	c := ownCluster(sampleCluster(t))
	change(&c)
	return c
}

// notClusters has clusters that are invalid for one reason each.
func notClusters(t *testing.T) map[string]impl.Cluster {
	t.Helper()
	l := map[string]impl.Cluster{"nothing": {}, "a ring alone": {Ring: ringOf(1, 4), N: 1, R: 1, W: 1}}
	with := func(what string, change func(c *impl.Cluster)) {
		l[what] = changedCluster(t, change)
	}
	for _, n := range append(wrongCounts(), 5) {
		with(fmt.Sprint("N ", n), func(c *impl.Cluster) { c.N, c.R, c.W = n, 1, 1 })
	}
	for _, k := range append(wrongCounts(), 4, 5) {
		with(fmt.Sprint("R ", k), func(c *impl.Cluster) { c.R = k })
		with(fmt.Sprint("W ", k), func(c *impl.Cluster) { c.W = k })
	}
	with("R above N", func(c *impl.Cluster) { c.N, c.R, c.W = 1, 2, 1 })
	with("W above N", func(c *impl.Cluster) { c.N, c.R, c.W = 1, 1, 2 })
	for i, tokens := range changedTokens(ringOf(4, 4).Tokens)[:40] {
		with(fmt.Sprint("tokens ", i), func(c *impl.Cluster) { c.Ring.Tokens = tokens })
	}
	for _, nodes := range []int64{0, 3, 5, -4, 4 + 1<<32} {
		with(fmt.Sprint("nodes of the ring ", nodes), func(c *impl.Cluster) { c.Ring.Nodes = nodes })
	}
	with("a smaller ring", func(c *impl.Cluster) { c.Ring = ringOf(3, 4) })
	with("a larger ring", func(c *impl.Cluster) { c.Ring = ringOf(5, 4) })
	with("too many tokens of each", func(c *impl.Cluster) { c.Ring = ringOf(4, 9) })
	for _, down := range append(notDowns(), []int64{5}, []int64{1, 5}, []int64{1, 2, 3, 4, 5}) {
		with(fmt.Sprintf("down %v", down[:min(len(down), 8)])+fmt.Sprint(len(down)), func(c *impl.Cluster) { c.Down = down })
	}
	with("no stores", func(c *impl.Cluster) { c.Stores = nil })
	with("a store too few", func(c *impl.Cluster) { c.Stores = c.Stores[:3] })
	with("no first store", func(c *impl.Cluster) { c.Stores = c.Stores[1:] })
	with("a store too many", func(c *impl.Cluster) { c.Stores = append(c.Stores, impl.Store{Node: 5}) })
	with("a store twice", func(c *impl.Cluster) { c.Stores[1] = c.Stores[0] })
	with("the last store twice", func(c *impl.Cluster) { c.Stores = append(c.Stores, c.Stores[3]) })
	with("many stores", func(c *impl.Cluster) { c.Stores = slices.Repeat(c.Stores, impl.MaxList) })
	with("stores swapped", func(c *impl.Cluster) { c.Stores[2], c.Stores[3] = c.Stores[3], c.Stores[2] })
	for what, s := range notStores(t) {
		with("a store with "+what, func(c *impl.Cluster) { c.Stores[1] = s })
	}
	with("a wrong store of a node that is down", func(c *impl.Cluster) { c.Stores[2].Synced++ })
	with("a wrong last store", func(c *impl.Cluster) { c.Stores[3].Items = nil })
	return l
}

func TestClusterRight(t *testing.T) {
	for _, c := range append(shapes(), sampleCluster(t)) {
		if !impl.ClusterRight(c) {
			t.Errorf("not valid: %s", clusterText(c))
		}
	}
	for _, down := range allDowns() {
		c := sampleCluster(t)
		c.Down = down
		if got, want := impl.ClusterRight(c), !slices.Contains(down, 5); got != want {
			t.Errorf("down %v of 4 nodes: got %v", down, got)
		}
	}
	for each := int64(1); each <= impl.MaxEach; each++ {
		c := sampleCluster(t)
		c.Ring = ringOf(4, each)
		if !impl.ClusterRight(c) {
			t.Errorf("%d tokens of each node: not valid", each)
		}
	}
	for what, c := range notClusters(t) {
		if impl.ClusterRight(c) {
			t.Errorf("%s: valid", what)
		}
	}
}

func TestInvalidClustersAreRejected(t *testing.T) {
	long, many := strings.Repeat("k", impl.MaxBytes+1), make([]int64, impl.MaxList+1)
	for what, c := range notClusters(t) {
		wantClusterCode(t, what+", Put", impl.Put(c, "cart", nil, "x", false, nil), impl.ErrForm)
		wantClusterCode(t, what+", Put of nothing", impl.Put(c, "", nil, "", true, []int64{1, 1, 1, 1, 1}), impl.ErrForm)
		wantClusterCode(t, what+", Get", impl.Get(c, "cart", nil), impl.ErrForm)
		wantClusterCode(t, what+", Get of few", impl.Get(c, "cart", []int64{1, 1, 1, 1, 1}), impl.ErrForm)
		for _, node := range []int64{-1, 0, 1, 2, 3, 4, 5, 6} {
			wantClusterCode(t, what+", GoDown", impl.GoDown(c, node, 0), impl.ErrForm)
			wantClusterCode(t, what+", GoUp", impl.GoUp(c, node), impl.ErrForm)
			wantClusterCode(t, what+", Handoff", impl.Handoff(c, node), impl.ErrForm)
		}
		if got := impl.Hints(c); got != 0 {
			t.Errorf("%s, Hints: got %d", what, got)
		}
		wantClusterCode(t, what+", Put of a long key", impl.Put(c, long, nil, "x", false, nil), impl.ErrSize)
		wantClusterCode(t, what+", Get with many lost", impl.Get(c, "cart", many), impl.ErrSize)
	}
}

func TestHints(t *testing.T) {
	for _, c := range shapes() {
		if got := impl.Hints(c); got != 0 {
			t.Errorf("a new cluster: %d hints", got)
		}
	}
	c := sampleCluster(t)
	// Node 3 is down, and its hint is for a node that is not there.
	if got := impl.Hints(c); got != allHints(c) || got != 8 {
		t.Errorf("got %d hints, want 8 or %d", got, allHints(c))
	}
	full := append(manyItems(3, impl.MaxHints), manyItems(2, impl.MaxItems)...)
	for what, s := range map[string]impl.Store{"hints for 3": storeOf(t, 2, full...), "hints for 2": storeOf(t, 3, full...)} {
		if got := impl.Hints(clusterOf(3, 1, 1, 1, s)); got != impl.MaxHints {
			t.Errorf("%s: got %d", what, got)
		}
	}
}

func TestClusterSizeLimits(t *testing.T) {
	c := sampleCluster(t)
	key, data := strings.Repeat("k", impl.MaxBytes), strings.Repeat("d", impl.MaxBytes)
	seen, lost := repeated(impl.Mark{Node: 1, N: 1}, impl.MaxList), make([]int64, impl.MaxList)
	wantClusterCode(t, "a key of MaxBytes", impl.Put(c, key, nil, "x", false, nil), impl.ErrForm)
	wantClusterCode(t, "data of MaxBytes", impl.Put(c, "cart", nil, data, false, nil), impl.ErrForm)
	wantClusterCode(t, "MaxList seen", impl.Put(c, "cart", seen, "x", false, nil), impl.ErrForm)
	wantClusterCode(t, "Get of a key of MaxBytes", impl.Get(c, key, nil), impl.ErrForm)
	w := wrote{key: "cart", data: "x", lost: lost}
	wantClusterOut(t, "MaxList lost", w.at(c), w.model(c))
	wantClusterOut(t, "Get, MaxList lost", impl.Get(c, "cart", lost), getModel(c, "cart", lost))
	for _, c := range []impl.Cluster{c, goneDown(c, 1, 2, 3, 4), {}} {
		for _, gone := range []bool{false, true} {
			for _, key := range []string{"cart", "", "A"} {
				wantClusterCode(t, "much data", impl.Put(c, key, nil, data+"d", gone, nil), impl.ErrSize)
				wantClusterCode(t, "much seen", impl.Put(c, key, append(seen, seen[0]), "x", gone, nil), impl.ErrSize)
				wantClusterCode(t, "much lost", impl.Put(c, key, nil, "x", gone, append(lost, 1)), impl.ErrSize)
				wantClusterCode(t, "Get, much lost", impl.Get(c, key, append(lost, 1)), impl.ErrSize)
			}
			wantClusterCode(t, "a long key", impl.Put(c, key+"k", nil, "x", gone, nil), impl.ErrSize)
		}
		wantClusterCode(t, "Get of a long key", impl.Get(c, key+"k", nil), impl.ErrSize)
	}
}

func TestClusterKeys(t *testing.T) {
	for _, c := range []impl.Cluster{sampleCluster(t), goneDown(sampleCluster(t), 1, 2, 3, 4), clusterOf(1, 1, 1, 1)} {
		for _, key := range notNames() {
			wantClusterCode(t, "Put of "+shown(key), impl.Put(c, key, nil, "x", false, nil), impl.ErrForm)
			wantClusterCode(t, "Get of "+shown(key), impl.Get(c, key, nil), impl.ErrForm)
			wantClusterCode(t, "Get of few of "+shown(key), impl.Get(c, key, []int64{1, 1, 1}), impl.ErrForm)
		}
		for _, key := range someKeys() {
			w := wrote{key: key, data: "x"}
			wantClusterOut(t, "Put of "+key, w.at(c), w.model(c))
			wantClusterOut(t, "Get of "+key, impl.Get(c, key, nil), getModel(c, key, nil))
		}
	}
}

// losts has lists of any length around that of a list of at most five elements.
func losts() [][]int64 {
	l := [][]int64{nil, {}, {1}, {0, 1}, {0, 0, 1}, {-1, 1}, {1, 0, 1}, {1, 1}, {math.MinInt64, 2}, {math.MaxInt64, 0, 1 << 32}, {-1, -1, -1, -1, -1, -1},
		{1, 1, 1, 1, 1}, {0, 1, 1, 1, 1}, {0, 0, 0, 0, 0, 1, 1}, {1, 1, 1, 1, 1, 1, 1}, {2, 0, 3, 0, 4}, {0, -7, 0, -7, 1}}
	return append(l, slices.Repeat([]int64{1}, impl.MaxList))
}

// TestAnyNodesDownOrLost has every shape of cluster with every list of nodes that are down.
func TestAnyNodesDownOrLost(t *testing.T) {
	codes := map[int64]int{}
	for i, c := range shapes() {
		for j, down := range allDowns() {
			if len(down) > 0 && down[len(down)-1] > c.Ring.Nodes {
				continue
			}
			key, lost := someKeys()[(i+j)%len(someKeys())], losts()[(i*7+j)%len(losts())]
			c := goneDown(c, down...)
			w := wrote{key: key, data: "x", lost: lost}
			put, want := w.at(c), w.model(c)
			what := fmt.Sprintf("%s of %s, lost %v", key, clusterText(c), lost[:min(8, len(lost))])
			wantClusterOut(t, "Put of "+what, put, want)
			wantClusterOut(t, "Get of "+what, impl.Get(c, key, lost), getModel(c, key, lost))
			codes[want.Code]++
			if len(want.Cluster.Stores) > 0 {
				wantClusterOut(t, "Get behind Put of "+what, impl.Get(want.Cluster, key, nil), getModel(want.Cluster, key, nil))
			}
		}
	}
	if codes[impl.OK] < 100 || codes[impl.ErrFew] < 100 || codes[impl.ErrDown] < 100 {
		t.Errorf("codes: %v", codes)
	}
}

// TestThePlacesOfAWrite says where a write is, without the model; nodes are given by their index in the order of the key.
func TestThePlacesOfAWrite(t *testing.T) {
	c := clusterOf(5, 3, 1, 3)
	o := orderOf(c.Ring, "cart")
	nodesAt := func(indexes []int) []int64 {
		var l []int64
		for _, i := range indexes {
			l = append(l, o[i])
		}
		return l
	}
	type keeps struct{ node, owner int }
	for what, test := range map[string]struct {
		down  []int
		lost  []int64
		first int
		want  []keeps
		code  int64
	}{
		"all up":                 {nil, nil, 0, []keeps{{0, 0}, {1, 1}, {2, 2}}, impl.OK},
		"the first owner down":   {[]int{0}, nil, 1, []keeps{{3, 0}, {1, 1}, {2, 2}}, impl.OK},
		"two owners down":        {[]int{0, 2}, nil, 1, []keeps{{3, 0}, {1, 1}, {4, 2}}, impl.OK},
		"a stand-in down":        {[]int{1, 3}, nil, 0, []keeps{{0, 0}, {4, 1}, {2, 2}}, impl.OK},
		"one stand-in for two":   {[]int{0, 1, 4}, nil, 2, []keeps{{3, 0}, {2, 2}}, impl.ErrFew},
		"no stand-in":            {[]int{1, 3, 4}, nil, 0, []keeps{{0, 0}, {2, 2}}, impl.ErrFew},
		"no stand-in, one lost":  {[]int{1, 3, 4}, []int64{0, 1}, 0, []keeps{{0, 0}}, impl.ErrFew},
		"the first node lost":    {nil, []int64{1}, 0, []keeps{{0, 0}, {1, 1}, {2, 2}}, impl.OK},
		"the second one lost":    {nil, []int64{0, 1}, 0, []keeps{{0, 0}, {2, 2}}, impl.ErrFew},
		"all lost":               {nil, []int64{1, 1, 1, 1}, 0, []keeps{{0, 0}}, impl.ErrFew},
		"the stand-in lost":      {[]int{0}, []int64{1}, 1, []keeps{{1, 1}, {2, 2}}, impl.ErrFew},
		"the first owner lost":   {[]int{0}, []int64{0, 1}, 1, []keeps{{3, 0}, {1, 1}, {2, 2}}, impl.OK},
		"beyond the list":        {nil, []int64{0, 0, 0, 1}, 0, []keeps{{0, 0}, {1, 1}, {2, 2}}, impl.OK},
		"negative":               {nil, []int64{-1, -2, -3}, 0, []keeps{{0, 0}, {1, 1}, {2, 2}}, impl.OK},
		"others down, last lost": {[]int{3, 4}, []int64{0, 0, 9}, 0, []keeps{{0, 0}, {1, 1}}, impl.ErrFew},
	} {
		before := goneDown(c, nodesAt(test.down)...)
		x := oneSet(o[test.first], "x")
		want := impl.ClusterOut{Cluster: ownCluster(before), Set: x, Code: test.code}
		for _, p := range test.want {
			want.Cluster.Stores[o[p.node]-1] = synced(storeOf(t, o[p.node], puts("cart", o[p.owner], x)))
		}
		wantClusterOut(t, what, impl.Put(before, "cart", nil, "x", false, test.lost), want)
	}
	ownersDown := goneDown(c, o[0], o[1], o[2])
	wantClusterCode(t, "all owners down", impl.Put(ownersDown, "cart", nil, "x", false, nil), impl.ErrDown)
	wantClusterCode(t, "all nodes down", impl.Put(goneDown(c, 1, 2, 3, 4, 5), "cart", nil, "x", false, nil), impl.ErrDown)
	wantClusterCode(t, "Get, all nodes down", impl.Get(goneDown(c, 1, 2, 3, 4, 5), "cart", nil), impl.ErrFew)
	wantCluster(t, "Get from stand-ins", impl.Get(ownersDown, "cart", nil), ownersDown)
}

// TestPutErrors has inputs at which one error applies, or two, of which the first counts.
func TestPutErrors(t *testing.T) {
	c := clusterOf(3, 2, 1, 2)
	o := orderOf(c.Ring, "cart")
	ownersDown := goneDown(c, o[0], o[1])
	lost := []int64{1, 1}
	for i, seen := range notSeen() {
		what := fmt.Sprint("invalid seen ", i)
		wantClusterCode(t, what, impl.Put(c, "cart", seen, "x", false, nil), impl.ErrForm)
		wantClusterCode(t, what+" and few", impl.Put(c, "cart", seen, "x", false, lost), impl.ErrForm)
		wantClusterCode(t, what+" and owners down", impl.Put(ownersDown, "cart", seen, "x", false, nil), impl.ErrDown)
	}
	wantClusterCode(t, "no name and owners down", impl.Put(ownersDown, "", nil, "x", false, nil), impl.ErrForm)
	wantClusterCode(t, "owners down and few", impl.Put(ownersDown, "cart", nil, "x", false, lost), impl.ErrDown)
	for _, data := range []string{strings.Repeat("d", impl.MaxData+1), strings.Repeat("d", impl.MaxBytes)} {
		wantClusterCode(t, "long data", impl.Put(c, "cart", nil, data, false, nil), impl.ErrForm)
		wantClusterCode(t, "long data and few", impl.Put(c, "cart", nil, data, false, lost), impl.ErrForm)
		wantClusterCode(t, "long data and owners down", impl.Put(ownersDown, "cart", nil, data, false, nil), impl.ErrDown)
	}
	wantClusterCode(t, "data of a deletion", impl.Put(c, "cart", nil, "x", true, nil), impl.ErrForm)
	wantClusterCode(t, "data of a deletion and owners down", impl.Put(ownersDown, "cart", nil, "x", true, nil), impl.ErrDown)
	late := []impl.Mark{{Node: o[0], N: impl.MaxTime}}
	wantClusterCode(t, "no later dot", impl.Put(c, "cart", late, "x", false, nil), impl.ErrFull)
	wantClusterCode(t, "no later dot and few", impl.Put(c, "cart", late, "x", false, lost), impl.ErrFull)
	wantClusterCode(t, "no later dot and long data", impl.Put(c, "cart", late, strings.Repeat("d", 17), false, nil), impl.ErrForm)
	w := wrote{key: "cart", seen: []impl.Mark{{Node: o[0], N: impl.MaxTime - 1}, {Node: 5, N: 7}}, data: strings.Repeat("d", 16)}
	if w.model(c).Code != impl.OK {
		t.Fatalf("the last dot: code %d", w.model(c).Code)
	}
	wantClusterOut(t, "the last dot", w.at(c), w.model(c))
	many := clusterOf(3, 2, 1, 2, synced(storeOf(t, o[0], puts("cart", o[0], nodeSet(o[1], impl.MaxSibs)))))
	wantClusterCode(t, "nine siblings", impl.Put(many, "cart", nil, "x", false, nil), impl.ErrFull)
	wantClusterCode(t, "nine siblings and few", impl.Put(many, "cart", nil, "x", false, lost), impl.ErrFull)
	over := wrote{key: "cart", seen: []impl.Mark{{Node: o[1], N: 1}}, data: "x"}
	wantClusterOut(t, "one of eight siblings read", over.at(many), over.model(many))
}

// TestNoRoomForAWrite: at the first node it fails, at another one that node has not answered.
func TestNoRoomForAWrite(t *testing.T) {
	o := orderOf(ringOf(3, 4), "cart")
	size := len(puts("cart", o[0], oneSet(o[0], "x")).text())
	items := func(node int64) impl.Store { return synced(storeOf(t, node, manyItems(node, impl.MaxItems)...)) }
	log := func(node int64, room int) impl.Store { return filled(t, impl.Store{Node: node}, impl.MaxBytes-room) }
	hints := synced(storeOf(t, o[2], manyItems(o[1], impl.MaxHints)...))
	sibs := func(node int64) impl.Store {
		return synced(storeOf(t, node, puts("cart", node, nodeSet(o[2], impl.MaxSibs))))
	}
	w := wrote{key: "cart", data: "x"}
	for what, c := range map[string]impl.Cluster{
		"items at the first node":     clusterOf(3, 2, 1, 1, items(o[0])),
		"the log of the first node":   clusterOf(3, 2, 1, 1, log(o[0], size-1)),
		"siblings at the first node":  clusterOf(3, 2, 1, 1, sibs(o[0])),
		"items at the first one up":   goneDown(clusterOf(3, 2, 1, 1, items(o[1])), o[0]),
		"the log of the first one up": goneDown(clusterOf(3, 2, 1, 1, log(o[1], 0)), o[0]),
	} {
		wantClusterCode(t, what, w.at(c), impl.ErrFull)
		c.W = 2
		for _, lost := range losts() {
			wantClusterCode(t, what+" and few", impl.Put(c, "cart", nil, "x", false, lost), impl.ErrFull)
		}
	}
	for what, c := range map[string]impl.Cluster{
		"items at the second node":    clusterOf(3, 2, 1, 2, items(o[1])),
		"the log of the second node":  clusterOf(3, 2, 1, 2, log(o[1], size-1)),
		"siblings at the second node": clusterOf(3, 2, 1, 2, sibs(o[1])),
		"hints at the stand-in":       goneDown(clusterOf(3, 2, 1, 2, hints), o[0]),
		"the log of the stand-in":     goneDown(clusterOf(3, 2, 1, 2, log(o[2], size-1)), o[0]),
	} {
		few := w.model(c)
		if few.Code != impl.ErrFew || len(few.Cluster.Stores) != 3 {
			t.Fatalf("%s: code %d", what, few.Code)
		}
		wantClusterOut(t, what, w.at(c), few)
		c.W = 1
		few.Cluster.W = 1
		wantClusterOut(t, what+", W = 1", w.at(c), impl.ClusterOut{Cluster: few.Cluster, Set: few.Set})
	}
	for what, c := range map[string]impl.Cluster{
		"the log of the first node":  clusterOf(3, 2, 1, 2, log(o[0], size)),
		"the log of the second node": clusterOf(3, 2, 1, 2, log(o[1], size)),
		"the log of the stand-in":    goneDown(clusterOf(3, 2, 1, 2, log(o[2], size)), o[0]),
		"hints at the first node":    clusterOf(3, 2, 1, 2, synced(storeOf(t, o[0], manyItems(o[1], impl.MaxHints)...))),
		"items at the stand-in":      goneDown(clusterOf(3, 2, 1, 2, items(o[2])), o[0]),
	} {
		if w.model(c).Code != impl.OK {
			t.Fatalf("%s: code %d", what, w.model(c).Code)
		}
		wantClusterOut(t, what+", just enough", w.at(c), w.model(c))
	}
}

func TestGetErrors(t *testing.T) {
	a, b := overfull()
	o := orderOf(ringOf(4, 4), "cart")
	keeps := func(node int64, owner int64, set impl.Set) impl.Store {
		return synced(storeOf(t, node, puts("cart", owner, set)))
	}
	c := clusterOf(4, 3, 2, 1, keeps(o[0], o[0], a), keeps(o[2], o[2], b))
	wantClusterCode(t, "nine siblings", impl.Get(c, "cart", nil), impl.ErrFull)
	wantClusterCode(t, "nine siblings of two", impl.Get(c, "cart", []int64{0, 1}), impl.ErrFull)
	wantClusterCode(t, "no name", impl.Get(c, "", nil), impl.ErrForm)
	for _, lost := range [][]int64{{1}, {0, 0, 1}} {
		want := getModel(c, "cart", lost)
		if want.Code != impl.OK || len(want.Set.Sibs) < 4 {
			t.Fatalf("lost %v: code %d, %#v", lost, want.Code, want.Set)
		}
		wantClusterOut(t, "without one of them", impl.Get(c, "cart", lost), want)
	}
	c.R = 3
	wantClusterCode(t, "nine siblings of three", impl.Get(c, "cart", nil), impl.ErrFull)
	wantClusterCode(t, "nine siblings, but few", impl.Get(c, "cart", []int64{0, 1}), impl.ErrFew)
	c = goneDown(clusterOf(4, 3, 1, 1, keeps(o[3], o[1], a), keeps(o[2], o[2], b)), o[1])
	wantClusterCode(t, "nine siblings with a hint", impl.Get(c, "cart", nil), impl.ErrFull)
	// What a node keeps for nobody of the list does not count.
	c = clusterOf(4, 3, 3, 1, keeps(o[0], o[1], a), keeps(o[2], o[2], b), keeps(o[3], o[0], a))
	wantClusterOut(t, "hints that are not asked for", impl.Get(c, "cart", nil), getModel(c, "cart", nil))
	if got := impl.Get(c, "cart", nil).Set; !sameSet(got, b) {
		t.Errorf("hints that are not asked for: got %#v", got)
	}
}

// TestReadRepair says who is repaired, without the model.
func TestReadRepair(t *testing.T) {
	o := orderOf(ringOf(5, 4), "cart")
	old, late := oneSet(o[0], "x"), impl.SetPut(oneSet(o[0], "x"), nil, o[0], "y", false).Set
	other := oneSet(o[1], "z")
	both := syncOf(late, other).Set
	keeps := func(node int64, owner int64, sets ...impl.Set) impl.Store {
		var l []change
		for _, set := range sets {
			l = append(l, puts("cart", owner, set))
		}
		return synced(storeOf(t, node, l...))
	}
	with := func(stores ...impl.Store) impl.Cluster { return clusterOf(5, 3, 1, 1, stores...) }
	for what, test := range map[string]struct {
		before impl.Cluster
		lost   []int64
		after  impl.Cluster
		set    impl.Set
	}{
		"nothing written": {with(), nil, with(), impl.Set{}},
		"all the same":    {with(keeps(o[0], o[0], old), keeps(o[1], o[1], old), keeps(o[2], o[2], old)), nil, with(keeps(o[0], o[0], old), keeps(o[1], o[1], old), keeps(o[2], o[2], old)), old},
		"one missed it":   {with(keeps(o[0], o[0], old), keeps(o[2], o[2], old)), nil, with(keeps(o[0], o[0], old), keeps(o[1], o[1], old), keeps(o[2], o[2], old)), old},
		"the last has it": {with(keeps(o[2], o[2], old)), nil, with(keeps(o[0], o[0], old), keeps(o[1], o[1], old), keeps(o[2], o[2], old)), old},
		"lost":            {with(keeps(o[0], o[0], old)), []int64{0, 1}, with(keeps(o[0], o[0], old), keeps(o[2], o[2], old)), old},
		"it alone lost":   {with(keeps(o[0], o[0], old)), []int64{1}, with(keeps(o[0], o[0], old)), impl.Set{}},
		"three versions":  {with(keeps(o[0], o[0], late), keeps(o[1], o[1], other), keeps(o[2], o[2], old)), nil, with(keeps(o[0], o[0], late, both), keeps(o[1], o[1], other, both), keeps(o[2], o[2], old, both)), both},
		"a stand-in": {goneDown(with(keeps(o[0], o[0], late), keeps(o[3], o[1], other)), o[1]), nil,
			goneDown(with(keeps(o[0], o[0], late, both), keeps(o[3], o[1], other, both), keeps(o[2], o[2], both)), o[1]), both},
		"stand-ins alone": {goneDown(with(keeps(o[3], o[0], late), keeps(o[1], o[1], other)), o[0], o[1], o[2]), nil,
			goneDown(with(keeps(o[3], o[0], late), keeps(o[1], o[1], other), keeps(o[4], o[1], late)), o[0], o[1], o[2]), late},
	} {
		wantClusterOut(t, what, impl.Get(test.before, "cart", test.lost), impl.ClusterOut{Cluster: test.after, Set: test.set})
		wantClusterOut(t, what+", again", impl.Get(test.after, "cart", test.lost), impl.ClusterOut{Cluster: test.after, Set: test.set})
	}
}

// TestReadRepairOfOtherContents has a write whose contents differ, which only a forged cluster has: the first ones are read, and each node stays with its own.
func TestReadRepairOfOtherContents(t *testing.T) {
	o := orderOf(ringOf(2, 4), "cart")
	first, second := oneSet(1, "first"), oneSet(1, "second")
	c := clusterOf(2, 2, 2, 2, synced(storeOf(t, o[0], puts("cart", o[0], first))), synced(storeOf(t, o[1], puts("cart", o[1], second))))
	want := ownCluster(c)
	want.Stores[o[1]-1] = synced(storeOf(t, o[1], puts("cart", o[1], second), puts("cart", o[1], first)))
	wantClusterOut(t, "Get", impl.Get(c, "cart", nil), impl.ClusterOut{Cluster: want, Set: first})
}

// TestReadRepairWithoutRoom: the read succeeds all the same, and the node stays as it is.
func TestReadRepairWithoutRoom(t *testing.T) {
	o := orderOf(ringOf(3, 4), "cart")
	x := oneSet(o[0], "x")
	size := len(puts("cart", o[1], x).text())
	has := synced(storeOf(t, o[0], puts("cart", o[0], x)))
	for what, c := range map[string]impl.Cluster{
		"items":                 clusterOf(3, 2, 2, 2, has, synced(storeOf(t, o[1], manyItems(o[1], impl.MaxItems)...))),
		"log":                   clusterOf(3, 2, 2, 2, has, filled(t, impl.Store{Node: o[1]}, impl.MaxBytes-size+1)),
		"hints of the stand-in": goneDown(clusterOf(3, 2, 2, 2, has, synced(storeOf(t, o[2], manyItems(o[1], impl.MaxHints)...))), o[1]),
		"log, not synced":       clusterOf(3, 2, 2, 2, has, unsynced(filled(t, impl.Store{Node: o[1]}, impl.MaxBytes))),
	} {
		wantClusterOut(t, what, impl.Get(c, "cart", nil), impl.ClusterOut{Cluster: c, Set: x})
	}
	c := clusterOf(3, 2, 2, 2, has, filled(t, impl.Store{Node: o[1]}, impl.MaxBytes-size))
	wantClusterOut(t, "just enough", impl.Get(c, "cart", nil), getModel(c, "cart", nil))
	if got := impl.Get(c, "cart", nil).Cluster.Stores[o[1]-1]; !sameSet(impl.StoreOf(got, "cart", o[1]), x) {
		t.Errorf("just enough: not repaired")
	}
}

func unsynced(s impl.Store) impl.Store {
	s.Synced = 0
	return s
}

func TestGoDownAndUp(t *testing.T) {
	for _, c := range []impl.Cluster{sampleCluster(t), goneDown(sampleCluster(t)), goneDown(sampleCluster(t), 1, 2, 3, 4), clusterOf(1, 1, 1, 1), clusterOf(5, 5, 5, 5)} {
		for _, node := range append(wrongNodes(), 1, 2, 3, 4, 5) {
			for _, keep := range []int64{0, -1, 3, impl.MaxBytes, math.MinInt64, math.MaxInt64} {
				wantClusterOut(t, fmt.Sprintf("GoDown(%d, %d)", node, keep), impl.GoDown(c, node, keep), downModel(t, c, node, keep))
			}
			wantClusterOut(t, fmt.Sprintf("GoUp(%d)", node), impl.GoUp(c, node), upModel(c, node))
		}
	}
	c := clusterOf(3, 2, 2, 2)
	for _, node := range []int64{2, 3, 1} {
		wantClusterCode(t, "GoUp", impl.GoUp(c, node), impl.ErrState)
		down := impl.GoDown(c, node, 0)
		wantCluster(t, "GoDown", down, goneDown(c, append(slices.Clone(c.Down), node)...))
		wantClusterCode(t, "GoDown again", impl.GoDown(down.Cluster, node, 0), impl.ErrState)
		wantCluster(t, "GoUp again", impl.GoUp(down.Cluster, node), c)
		c = down.Cluster
	}
	wantClusterCode(t, "GoDown of no node", impl.GoDown(c, 4, 0), impl.ErrNone)
	wantClusterCode(t, "GoUp of no node", impl.GoUp(c, 4), impl.ErrNone)
	wantClusterCode(t, "Handoff of no node", impl.Handoff(c, 4), impl.ErrNone)
	wantClusterCode(t, "Handoff of a node that is down", impl.Handoff(c, 2), impl.ErrDown)
}

// TestPowerFailsWithinARecord: of the unsynced records the complete ones remain.
func TestPowerFailsWithinARecord(t *testing.T) {
	first, second, third := puts("cart", 2, oneSet(1, "x")), puts("cart", 2, oneSet(2, "y")), puts("b", 3, nodeSet(3, 2))
	s := storeOf(t, 2, first, second, third)
	s.Synced = int64(len(first.text()))
	c := clusterOf(3, 2, 2, 2, s)
	for keep := int64(-2); keep < int64(len(s.Log))+2; keep++ {
		left := []change{first}
		if keep >= int64(len(second.text())) {
			left = append(left, second)
		}
		if keep >= int64(len(second.text()+third.text())) {
			left = append(left, third)
		}
		want := goneDown(clusterOf(3, 2, 2, 2, synced(storeOf(t, 2, left...))), 2)
		wantCluster(t, fmt.Sprint("keep ", keep), impl.GoDown(c, 2, keep), want)
	}
}

// TestHandoffOfUnsyncedHints: what was not synced is so with the next record.
func TestHandoffOfUnsyncedHints(t *testing.T) {
	hint := puts("cart", 1, oneSet(2, "x"))
	c := clusterOf(3, 2, 2, 2, storeOf(t, 1, puts("b", 1, oneSet(1, "y"))), storeOf(t, 3, hint))
	want := clusterOf(3, 2, 2, 2, synced(storeOf(t, 1, puts("b", 1, oneSet(1, "y")), hint)), synced(storeOf(t, 3, hint, drops("cart", 1))))
	wantCluster(t, "Handoff", impl.Handoff(c, 3), want)
	wantCluster(t, "Handoff without hints", impl.Handoff(c, 1), c)
}

// TestHandoff says which hints are handed off, without the model.
func TestHandoff(t *testing.T) {
	a, b := overfull()
	x := oneSet(1, "x")
	held := []change{puts("a", 2, x), puts("a", 4, a), puts("b", 1, x), puts("b", 2, b), puts("b", 3, x), puts("b", 5, x), puts("c", 1, b)}
	hints := func(more ...change) impl.Store { return synced(storeOf(t, 3, append(slices.Clone(held), more...)...)) }
	own := func(node int64, changes ...change) impl.Store { return synced(storeOf(t, node, changes...)) }
	with := func(stores ...impl.Store) impl.Cluster { return clusterOf(4, 2, 2, 2, stores...) }
	items := func(node int64, count int) impl.Store { return own(node, manyItems(node, count)...) }
	for what, test := range map[string]struct{ before, after impl.Cluster }{
		"all but that of no node": {with(hints()), with(own(1, held[2], held[6]), own(2, held[0], held[3]),
			hints(drops("a", 2), drops("a", 4), drops("b", 1), drops("b", 2), drops("c", 1)), own(4, held[1]))},
		"one down": {goneDown(with(hints()), 2), goneDown(with(own(1, held[2], held[6]),
			hints(drops("a", 4), drops("b", 1), drops("c", 1)), own(4, held[1])), 2)},
		"all others down": {goneDown(with(hints()), 1, 2, 4), goneDown(with(hints()), 1, 2, 4)},
		"merged": {goneDown(with(own(1, puts("b", 1, a), puts("c", 1, x)), hints()), 2, 4), goneDown(with(own(1, puts("b", 1, a), puts("c", 1, x), held[2], held[6]),
			hints(drops("b", 1), drops("c", 1))), 2, 4)},
		"too many siblings": {goneDown(with(own(1, puts("c", 1, a)), hints()), 2, 4), goneDown(with(own(1, puts("c", 1, a), held[2]),
			hints(drops("b", 1))), 2, 4)},
		"room for one item": {goneDown(with(items(1, impl.MaxItems-1), hints()), 2, 4), goneDown(with(own(1, append(manyItems(1, impl.MaxItems-1), held[2])...),
			hints(drops("b", 1))), 2, 4)},
		"no room for items": {goneDown(with(items(1, impl.MaxItems), hints()), 2, 4), goneDown(with(items(1, impl.MaxItems), hints()), 2, 4)},
	} {
		wantCluster(t, what, impl.Handoff(test.before, 3), test.after)
		for _, node := range []int64{1, 2, 4} {
			if !slices.Contains(test.before.Down, node) {
				wantCluster(t, what+", at a node without hints", impl.Handoff(test.before, node), test.before)
			}
		}
		if got := impl.Hints(test.after); got != allHints(test.after) {
			t.Errorf("%s: %d hints", what, got)
		}
		wantClusterCode(t, what+", at a node that is down", impl.Handoff(goneDown(test.before, 3), 3), impl.ErrDown)
	}
}

// TestHandoffWithoutRoomInALog: a hint stays if the node that it is for has no room, and also if it cannot be dropped.
func TestHandoffWithoutRoomInALog(t *testing.T) {
	hint, drop := puts("cart", 1, oneSet(2, "x")), drops("cart", 1)
	held := synced(storeOf(t, 2, hint))
	left := func(s impl.Store, room int) impl.Store { return filled(t, s, impl.MaxBytes-room) }
	more := func(s impl.Store, changes ...change) impl.Store {
		for _, c := range changes {
			next, code := changed(s, c)
			if code != impl.OK {
				t.Fatalf("code %d", code)
			}
			s = next
		}
		return synced(s)
	}
	size, least := len(hint.text()), len(drop.text())
	for what, test := range map[string]struct{ before, after impl.Cluster }{
		"there, not enough":   {clusterOf(2, 1, 1, 1, left(impl.Store{Node: 1}, size-1), held), clusterOf(2, 1, 1, 1, left(impl.Store{Node: 1}, size-1), held)},
		"there, just enough":  {clusterOf(2, 1, 1, 1, left(impl.Store{Node: 1}, size), held), clusterOf(2, 1, 1, 1, more(left(impl.Store{Node: 1}, size), hint), more(held, drop))},
		"here, not enough":    {clusterOf(2, 1, 1, 1, left(held, least-1)), clusterOf(2, 1, 1, 1, more(impl.Store{Node: 1}, hint), left(held, least-1))},
		"here, just enough":   {clusterOf(2, 1, 1, 1, left(held, least)), clusterOf(2, 1, 1, 1, more(impl.Store{Node: 1}, hint), more(left(held, least), drop))},
		"neither has enough":  {clusterOf(2, 1, 1, 1, left(impl.Store{Node: 1}, 0), left(held, 0)), clusterOf(2, 1, 1, 1, left(impl.Store{Node: 1}, 0), left(held, 0))},
		"not enough, unsaved": {clusterOf(2, 1, 1, 1, unsynced(left(impl.Store{Node: 1}, 0)), held), clusterOf(2, 1, 1, 1, unsynced(left(impl.Store{Node: 1}, 0)), held)},
	} {
		wantCluster(t, what, impl.Handoff(test.before, 2), test.after)
	}
}

func someLost(r *rand.Rand) []int64 {
	lost := make([]int64, r.Intn(7))
	for i := range lost {
		lost[i] = []int64{-1, 0, 0, 0, 1, 2}[r.Intn(6)]
	}
	return lost
}

// historyStep performs one operation and returns what it should return.
func historyStep(t *testing.T, r *rand.Rand, c impl.Cluster, read []impl.Mark) (string, impl.ClusterOut, impl.ClusterOut) {
	t.Helper()
	key, node, lost := string(rune('a'+r.Intn(9))), int64(r.Intn(7)), someLost(r)
	switch r.Intn(10) {
	case 0:
		keep := int64(r.Intn(60)) - 1
		return "GoDown", impl.GoDown(c, node, keep), downModel(t, c, node, keep)
	case 1, 2:
		return "GoUp", impl.GoUp(c, node), upModel(c, node)
	case 3:
		return "Handoff", impl.Handoff(c, node), handoffModel(c, node)
	case 4, 5, 6:
		return "Get", impl.Get(c, key, lost), getModel(c, key, lost)
	}
	w := wrote{key: key, data: someText(r.Intn(18)), lost: lost}
	if r.Intn(3) > 0 {
		w.seen = read
	}
	if r.Intn(6) == 0 {
		w.data, w.gone = w.data[:len(w.data)/12], true
	}
	return "Put", w.at(c), w.model(c)
}

// unsyncedStep puts a Set at a node, which is not synced before the next write there.
func unsyncedStep(r *rand.Rand, c impl.Cluster) impl.Cluster {
	node := int64(1 + r.Intn(len(c.Stores)))
	who := []int64{node, node, int64(1 + r.Intn(5))}[r.Intn(3)]
	next, code := changed(c.Stores[node-1], puts(string(rune('a'+r.Intn(9))), who, nodeSet(int64(1+r.Intn(5)), int64(1+r.Intn(7)))))
	if code == impl.OK {
		c = ownCluster(c)
		c.Stores[node-1] = next
	}
	return c
}

// TestHistories performs any operations in any order, as another implementation has it, until all limits have been reached.
func TestHistories(t *testing.T) {
	codes := map[string]int{}
	for seed := range int64(20) {
		r := rand.New(rand.NewSource(seed))
		nodes := 1 + seed%5
		n := 1 + r.Int63n(nodes)
		c := clusterOf(nodes, n, 1+r.Int63n(n), 1+r.Int63n(n))
		var read []impl.Mark
		for range 160 {
			if r.Intn(4) == 0 {
				c = unsyncedStep(r, c)
			}
			what, got, want := historyStep(t, r, c, read)
			wantClusterOut(t, what, got, want)
			codes[fmt.Sprint(what, want.Code)]++
			if len(want.Cluster.Stores) > 0 {
				c = want.Cluster
			}
			if len(want.Set.Seen) > 0 {
				read = want.Set.Seen
			}
			if got := impl.Hints(c); got != allHints(c) {
				t.Errorf("Hints: got %d, want %d", got, allHints(c))
			}
			if t.Failed() {
				t.FailNow()
			}
		}
	}
	for _, code := range []string{"Put0", "Put1", "Put9", "Put11", "Put12", "Get0", "Get9", "Get12", "GoDown0", "GoDown6", "GoDown10",
		"GoUp0", "GoUp6", "GoUp10", "Handoff0", "Handoff6", "Handoff11"} {
		if codes[code] < 5 {
			t.Errorf("%s: %d times", code, codes[code])
		}
	}
}

// Promise 8.

func TestWrittenValuesAreRead(t *testing.T) {
	read := 0
	for i, c := range shapes() {
		for j, down := range allDowns() {
			if len(down) > 0 && down[len(down)-1] > c.Ring.Nodes {
				continue
			}
			c := goneDown(c, down...)
			key := someKeys()[(i+j)%len(someKeys())]
			old := impl.Put(c, key, nil, "old", false, losts()[j%len(losts())])
			put := impl.Put(old.Cluster, key, nil, "new", false, losts()[(i+j)%len(losts())])
			if put.Code != impl.OK && put.Code != impl.ErrFew {
				continue
			}
			got := impl.Get(put.Cluster, key, nil)
			if int64(len(placesOf(c, key))) < c.R {
				wantClusterCode(t, "Get of few", got, impl.ErrFew)
				continue
			}
			values := impl.Values(got.Set)
			slices.Sort(values)
			if got.Code != impl.OK || !slices.Equal(values, []string{"new", "old"}) || !sameSet(got.Set, put.Set) {
				t.Errorf("%s in %s: got code %d, Set %#v", key, clusterText(c), got.Code, got.Set)
			}
			read++
		}
	}
	if read < 500 {
		t.Errorf("%d reads", read)
	}
}

// lostOf loses the elements whose bits are set.
func lostOf(bits int) []int64 {
	lost := make([]int64, impl.MaxNodes)
	for i := range lost {
		lost[i] = int64(bits >> i & 1)
	}
	return lost
}

func TestFewReturnNothing(t *testing.T) {
	for _, shape := range shapes() {
		c := impl.Put(shape, "cart", nil, "x", false, nil).Cluster
		for bits := range 1 << shape.N {
			lost := lostOf(bits)
			left := int64(len(reached(placesOf(c, "cart"), lost)))
			what := fmt.Sprintf("%d of %d left, R %d, W %d", left, c.N, c.R, c.W)
			if left < c.R {
				wantClusterCode(t, what, impl.Get(c, "cart", lost), impl.ErrFew)
			} else if got := impl.Get(c, "cart", lost); got.Code != impl.OK || !slices.Equal(impl.Values(got.Set), []string{"x"}) {
				t.Errorf("%s: Get: code %d, %#v", what, got.Code, got.Set)
			}
			// The first node has written, lost or not.
			answers := left + lost[0]
			if got := impl.Put(c, "cart", nil, "y", false, lost); got.Code == impl.OK != (answers >= c.W) {
				t.Errorf("%s: Put: code %d", what, got.Code)
			}
		}
	}
}

// Promises 9 and 10.

// story is a cluster whose clients write values that are all different, at most MaxSibs to a key.
type story struct {
	t       *testing.T
	r       *rand.Rand
	c       impl.Cluster
	written map[string]int
	// alive has the values that were not overwritten by a client that had read them.
	alive map[string]map[string]bool
	read  map[string]impl.Set
	codes map[int64]int
}

func newStory(t *testing.T, seed int64) *story {
	r := rand.New(rand.NewSource(seed))
	nodes := 1 + r.Int63n(impl.MaxNodes)
	n := 1 + r.Int63n(nodes)
	c := impl.ClusterNew(nodes, n, 1+r.Int63n(n), 1+r.Int63n(n)).Cluster
	s := &story{t: t, r: r, c: c, written: map[string]int{}, alive: map[string]map[string]bool{}, read: map[string]impl.Set{}, codes: map[int64]int{}}
	for _, key := range []string{"a", "cart", "zz"} {
		s.alive[key] = map[string]bool{}
	}
	return s
}

func (s *story) key() string {
	return []string{"a", "cart", "zz"}[s.r.Intn(3)]
}

// write writes with the context of the client's last read of the key, or with none.
func (s *story) write(informed bool) {
	key := s.key()
	if s.written[key] == impl.MaxSibs {
		return
	}
	var read impl.Set
	if informed {
		read = s.read[key]
	}
	data := fmt.Sprint(key, s.written[key])
	out := impl.Put(s.c, key, read.Seen, data, false, someLost(s.r))
	s.codes[out.Code]++
	if out.Code == impl.ErrDown {
		return
	}
	if out.Code != impl.OK && out.Code != impl.ErrFew {
		s.t.Fatalf("Put: code %d", out.Code)
	}
	s.c = out.Cluster
	s.written[key]++
	for _, x := range read.Sibs {
		delete(s.alive[key], x.Data)
	}
	s.alive[key][data] = true
}

func (s *story) step(informed bool) {
	node := 1 + s.r.Int63n(s.c.Ring.Nodes)
	var out impl.ClusterOut
	switch s.r.Intn(8) {
	case 0:
		out = impl.GoDown(s.c, node, int64(s.r.Intn(40)))
	case 1:
		out = impl.GoUp(s.c, node)
	case 2:
		out = impl.Handoff(s.c, node)
	case 3, 4:
		key := s.key()
		out = impl.Get(s.c, key, someLost(s.r))
		if out.Code == impl.OK {
			s.read[key] = out.Set
		}
	default:
		s.write(informed && s.r.Intn(2) == 0)
		return
	}
	if out.Code == impl.OK {
		s.c = out.Cluster
	}
}

// end lets everything become available and be exchanged.
func (s *story) end() {
	for node := range s.c.Ring.Nodes {
		if out := impl.GoUp(s.c, node+1); out.Code == impl.OK {
			s.c = out.Cluster
		}
	}
	for node := range s.c.Ring.Nodes {
		s.c = impl.Handoff(s.c, node+1).Cluster
	}
	for key := range s.alive {
		out := impl.Get(s.c, key, nil)
		if out.Code != impl.OK {
			s.t.Fatalf("Get: code %d", out.Code)
		}
		s.c = out.Cluster
	}
}

func (s *story) check() {
	s.t.Helper()
	if got := impl.Hints(s.c); got != 0 {
		s.t.Errorf("%d hints at the end", got)
	}
	for key, alive := range s.alive {
		var want []string
		for data := range alive {
			want = append(want, data)
		}
		slices.Sort(want)
		first := impl.Owners(s.c.Ring, key, 1)[0]
		for _, owner := range impl.Owners(s.c.Ring, key, s.c.N) {
			set := impl.StoreOf(s.c.Stores[owner-1], key, owner)
			values := impl.Values(set)
			slices.Sort(values)
			if !slices.Equal(values, want) {
				s.t.Errorf("%s at node %d: got %q, want %q", key, owner, values, want)
			}
			if !sameSet(set, impl.StoreOf(s.c.Stores[first-1], key, first)) {
				s.t.Errorf("%s: nodes %d and %d differ", key, first, owner)
			}
		}
	}
}

func tellStories(t *testing.T, informed bool) {
	codes := map[int64]int{}
	overwritten := 0
	for seed := range int64(150) {
		s := newStory(t, seed)
		for range 50 {
			s.step(informed)
		}
		s.end()
		s.check()
		for code, count := range s.codes {
			codes[code] += count
		}
		for key, count := range s.written {
			overwritten += count - len(s.alive[key])
		}
	}
	if codes[impl.OK] < 100 || codes[impl.ErrFew] < 100 || codes[impl.ErrDown] < 100 || informed != (overwritten > 100) {
		t.Errorf("codes %v, %d overwritten", codes, overwritten)
	}
}

func TestWritesAreFinallyPresent(t *testing.T) {
	tellStories(t, false)
}

func TestReadersOverwriteWhatTheyRead(t *testing.T) {
	tellStories(t, true)
}

// TestAReaderOverwritesNothingElse has a write between the read and the write of a client.
func TestAReaderOverwritesNothingElse(t *testing.T) {
	for _, shape := range shapes() {
		for _, down := range [][]int64{nil, {1}, {2}, {3}, {1, 4}} {
			if slices.ContainsFunc(down, func(node int64) bool { return node > shape.Ring.Nodes }) {
				continue
			}
			c := impl.Put(impl.Put(shape, "cart", nil, "x", false, nil).Cluster, "cart", nil, "y", false, nil).Cluster
			read := impl.Get(c, "cart", nil)
			wantValues(t, "before", read.Set, "x", "y")
			c = impl.Put(read.Cluster, "cart", nil, "z", false, nil).Cluster
			c.Down = down
			last := impl.Put(c, "cart", read.Set.Seen, "w", false, nil)
			if last.Code == impl.ErrDown {
				continue
			}
			wantValues(t, "written", last.Set, "w", "z")
			last.Cluster.Down = nil
			for node := range shape.Ring.Nodes {
				last.Cluster = impl.Handoff(last.Cluster, node+1).Cluster
			}
			end := impl.Get(last.Cluster, "cart", nil)
			wantValues(t, "read", end.Set, "w", "z")
			gone := impl.Put(end.Cluster, "cart", end.Set.Seen, "", true, nil)
			wantValues(t, "deleted", impl.Get(gone.Cluster, "cart", nil).Set)
		}
	}
}

func wantValues(t *testing.T, what string, set impl.Set, want ...string) {
	t.Helper()
	values := impl.Values(set)
	slices.Sort(values)
	if !slices.Equal(values, want) {
		t.Errorf("%s: got %q, want %q", what, values, want)
	}
}

// roomyCluster has room behind all its lists.
func roomyCluster(c impl.Cluster) impl.Cluster {
	stores := make([]impl.Store, 0, 20)
	for _, s := range c.Stores {
		stores = append(stores, roomyStore(s))
	}
	c.Stores = stores
	c.Down = append(make([]int64, 0, 20), c.Down...)
	c.Ring.Tokens = append(make([]impl.Token, 0, 60), c.Ring.Tokens...)
	return c
}

func spoilCluster(c impl.Cluster) {
	for i := range c.Stores {
		spoilStore(c.Stores[i])
		c.Stores[i] = impl.Store{Log: "spoiled"}
	}
	clear(c.Ring.Tokens)
	clear(c.Down)
}

func wantUntouchedCluster(t *testing.T, what string, c impl.Cluster, want impl.Cluster) {
	t.Helper()
	wantCluster(t, what, impl.ClusterOut{Cluster: c}, want)
	for i, s := range c.Stores {
		wantUntouchedStore(t, what, s, want.Stores[i])
	}
	for _, s := range c.Stores[len(c.Stores):cap(c.Stores)] {
		if !sameStore(s, impl.Store{}) {
			t.Errorf("%s: changed behind the stores", what)
		}
	}
	behind := c.Ring.Tokens[len(c.Ring.Tokens):cap(c.Ring.Tokens)]
	if slices.Max(c.Down[len(c.Down):cap(c.Down)]) > 0 || slices.ContainsFunc(behind, func(x impl.Token) bool { return x != impl.Token{} }) {
		t.Errorf("%s: changed behind the tokens or the nodes that are down", what)
	}
}

// clusterOperations has every operation, some of which fail.
func clusterOperations() map[string]func(c impl.Cluster, seen []impl.Mark, lost []int64) impl.ClusterOut {
	return map[string]func(c impl.Cluster, seen []impl.Mark, lost []int64) impl.ClusterOut{
		"Put": func(c impl.Cluster, seen []impl.Mark, lost []int64) impl.ClusterOut {
			return impl.Put(c, "cart", seen, "x", false, lost)
		},
		"Put of none": func(c impl.Cluster, seen []impl.Mark, lost []int64) impl.ClusterOut {
			return impl.Put(c, "", seen, "x", false, lost)
		},
		"Get":       func(c impl.Cluster, seen []impl.Mark, lost []int64) impl.ClusterOut { return impl.Get(c, "cart", lost) },
		"Get of b":  func(c impl.Cluster, seen []impl.Mark, lost []int64) impl.ClusterOut { return impl.Get(c, "b", lost) },
		"GoDown 1":  func(c impl.Cluster, seen []impl.Mark, lost []int64) impl.ClusterOut { return impl.GoDown(c, 1, 0) },
		"GoDown 3":  func(c impl.Cluster, seen []impl.Mark, lost []int64) impl.ClusterOut { return impl.GoDown(c, 3, 0) },
		"GoDown 4":  func(c impl.Cluster, seen []impl.Mark, lost []int64) impl.ClusterOut { return impl.GoDown(c, 4, 9) },
		"GoUp 3":    func(c impl.Cluster, seen []impl.Mark, lost []int64) impl.ClusterOut { return impl.GoUp(c, 3) },
		"GoUp 4":    func(c impl.Cluster, seen []impl.Mark, lost []int64) impl.ClusterOut { return impl.GoUp(c, 4) },
		"Handoff 1": func(c impl.Cluster, seen []impl.Mark, lost []int64) impl.ClusterOut { return impl.Handoff(c, 1) },
		"Handoff 4": func(c impl.Cluster, seen []impl.Mark, lost []int64) impl.ClusterOut { return impl.Handoff(c, 4) },
		"Handoff 3": func(c impl.Cluster, seen []impl.Mark, lost []int64) impl.ClusterOut { return impl.Handoff(c, 3) },
		"Hints": func(c impl.Cluster, seen []impl.Mark, lost []int64) impl.ClusterOut {
			return impl.ClusterOut{Code: impl.Hints(c)}
		},
		"ClusterRight": func(c impl.Cluster, seen []impl.Mark, lost []int64) impl.ClusterOut {
			return impl.ClusterOut{Set: impl.Set{Seen: []impl.Mark{{N: map[bool]int64{true: 1}[impl.ClusterRight(c)]}}}}
		},
	}
}

func TestClustersAreNewMemory(t *testing.T) {
	for what, operation := range clusterOperations() {
		old, oldSeen, oldLost := sampleCluster(t), counts{0, 1, 2}.marks(), []int64{0, -1, 1, 0}
		c, seen, lost := roomyCluster(old), slices.Clone(oldSeen), slices.Clone(oldLost)
		got := operation(c, seen, lost)
		wantUntouchedCluster(t, what, c, old)
		wantSeen(t, what, seen, oldSeen)
		wantNodes(t, what, lost, oldLost)
		want := impl.ClusterOut{Cluster: roomyCluster(got.Cluster), Set: copyOf(got.Set), Code: got.Code}
		spoilCluster(c)
		clear(seen)
		clear(lost)
		wantClusterOut(t, what+", arguments spoiled", got, want)
		c = roomyCluster(old)
		spoilCluster(operation(c, oldSeen, oldLost).Cluster)
		wantUntouchedCluster(t, what+", result spoiled", c, old)
	}
}

// TestClusterPartsShareNoMemory spoils one part of a result at a time.
func TestClusterPartsShareNoMemory(t *testing.T) {
	for what, operation := range clusterOperations() {
		result := func() impl.ClusterOut { return operation(sampleCluster(t), counts{0, 1, 2}.marks(), nil) }
		want := result()
		got := result()
		spoil(got.Set)
		wantCluster(t, what+", Set spoiled", impl.ClusterOut{Cluster: got.Cluster}, want.Cluster)
		for i := range want.Cluster.Stores {
			for j := range want.Cluster.Stores[i].Items {
				got = result()
				spoil(got.Cluster.Stores[i].Items[j].Set)
				got.Cluster.Stores[i].Items[j] = want.Cluster.Stores[i].Items[j]
				wantClusterOut(t, what+", an item spoiled", got, want)
			}
		}
	}
	first := impl.ClusterNew(3, 2, 2, 2).Cluster
	spoilCluster(first)
	wantCluster(t, "ClusterNew", impl.ClusterNew(3, 2, 2, 2), clusterOf(3, 2, 2, 2))
}
