package tests

import (
	"encoding/binary"
	"math"
	"math/rand"
	"slices"
	"strings"
	"testing"

	"loop.example/g00659/impl"
)

// sibOf gives each write the same contents in every Set; some of them are deletions.
func sibOf(node int64, n int64) impl.Sib {
	dot := impl.Mark{Node: node, N: n}
	if (node+n)%4 == 0 {
		return impl.Sib{Dot: dot, Gone: true}
	}
	return impl.Sib{Dot: dot, Data: someText(int(node*n) % 17)}
}

// smallSets has every Set of two nodes with at most two writes of each.
func smallSets() []impl.Set {
	var l []impl.Set
	for i := range 9 {
		first, third := int64(i%3), int64(i/3)
		var known []impl.Sib
		for n := range first {
			known = append(known, sibOf(1, n+1))
		}
		for n := range third {
			known = append(known, sibOf(3, n+1))
		}
		for chosen := range 1 << len(known) {
			s := impl.Set{Seen: counts{0, first, 0, third}.marks()}
			for bit, x := range known {
				if chosen>>bit&1 == 1 {
					s.Sibs = append(s.Sibs, x)
				}
			}
			l = append(l, s)
		}
	}
	return l
}

// largeSets has Sets of any number of siblings, with the greatest numbers among them.
func largeSets() []impl.Set {
	var l []impl.Set
	r := rand.New(rand.NewSource(4))
	for range 120 {
		var c counts
		var s impl.Set
		most := r.Intn(impl.MaxSibs + 1)
		for node := int64(1); node <= impl.MaxNodes; node++ {
			c[node] = []int64{0, 1, 2, 3, 4, 64, impl.MaxTime - 1, impl.MaxTime}[r.Intn(8)]
			for _, n := range []int64{1, 2, 3, 4, 64, impl.MaxTime - 1, impl.MaxTime} {
				if n <= c[node] && len(s.Sibs) < most && r.Intn(3) > 0 {
					s.Sibs = append(s.Sibs, sibOf(node, n))
				}
			}
		}
		s.Seen = c.marks()
		l = append(l, s)
	}
	return l
}

func someSets() []impl.Set {
	return append(smallSets(), largeSets()...)
}

// nodeSet has the first n writes of a node, all of them siblings.
func nodeSet(node int64, n int64) impl.Set {
	s := impl.Set{Seen: []impl.Mark{{Node: node, N: n}}}
	for i := range n {
		s.Sibs = append(s.Sibs, sibOf(node, i+1))
	}
	return s
}

// notSets has Sets that are invalid for one reason each, as far as possible.
func notSets() []impl.Set {
	seen := counts{0, 2, 0, 3, 0, impl.MaxTime}.marks()
	x, y := impl.Sib{Dot: impl.Mark{Node: 1, N: 2}, Data: "x"}, impl.Sib{Dot: impl.Mark{Node: 3, N: 1}, Data: "y"}
	l := []impl.Set{
		nodeSet(1, impl.MaxSibs+1), nodeSet(5, impl.MaxList+1),
		{Seen: seen, Sibs: []impl.Sib{y, x}}, {Seen: seen, Sibs: []impl.Sib{x, x}},
		{Seen: seen, Sibs: []impl.Sib{sibOf(1, 2), sibOf(1, 1)}}, {Seen: seen, Sibs: []impl.Sib{x, y, y}},
		{Seen: seen, Sibs: []impl.Sib{x, sibOf(3, 3), y}}, {Seen: seen, Sibs: []impl.Sib{y, sibOf(5, 1), x}},
		{Seen: seen, Sibs: []impl.Sib{x, {Dot: x.Dot, Data: "z"}}},
		{Sibs: []impl.Sib{x}}, {Seen: seen, Sibs: []impl.Sib{sibOf(1, 3)}}, {Seen: seen, Sibs: []impl.Sib{sibOf(2, 1)}},
		{Seen: seen, Sibs: []impl.Sib{x, y, sibOf(4, 1)}}, {Seen: seen, Sibs: []impl.Sib{sibOf(3, 4), sibOf(5, 1)}},
		{Seen: seen, Sibs: []impl.Sib{{Dot: x.Dot, Data: someText(impl.MaxData + 1)}}},
		{Seen: seen, Sibs: []impl.Sib{x, {Dot: y.Dot, Data: someText(impl.MaxBytes + 1)}}},
		{Seen: seen, Sibs: []impl.Sib{{Dot: x.Dot, Gone: true, Data: "x"}}},
		{Seen: seen, Sibs: []impl.Sib{x, {Dot: y.Dot, Gone: true, Data: "\x00"}}},
		{Seen: seen, Sibs: []impl.Sib{x, {Dot: y.Dot, Gone: true, Data: someText(impl.MaxData)}}},
	}
	for _, dot := range []impl.Mark{{}, {Node: 0, N: 1}, {Node: 6, N: 1}, {Node: -1, N: 1}, {Node: 5, N: 0},
		{Node: 5, N: -1}, {Node: 5, N: impl.MaxTime + 1}, {Node: math.MinInt64, N: math.MaxInt64}} {
		l = append(l, impl.Set{Seen: seen, Sibs: []impl.Sib{{Dot: dot, Data: "x"}}})
	}
	for _, v := range wrongSeen() {
		l = append(l, impl.Set{Seen: v})
	}
	return append(l, impl.Set{Seen: repeated(impl.Mark{Node: 1, N: 2}, 2), Sibs: []impl.Sib{x}})
}

func sameSet(a impl.Set, b impl.Set) bool {
	return slices.Equal(a.Seen, b.Seen) && slices.Equal(a.Sibs, b.Sibs)
}

func wantSetOut(t *testing.T, what string, got impl.SetOut, want impl.SetOut) {
	t.Helper()
	if got.Code != want.Code || got.Dot != want.Dot || !sameSet(got.Set, want.Set) {
		t.Errorf("%s: got %#v, want %#v", what, got, want)
	}
}

func wantSetCode(t *testing.T, what string, got impl.SetOut, code int64) {
	t.Helper()
	wantSetOut(t, what, got, impl.SetOut{Code: code})
}

func countsOf(v []impl.Mark) counts {
	var c counts
	for _, m := range v {
		c[m.Node] = m.N
	}
	return c
}

func joinedCounts(a []impl.Mark, b []impl.Mark) counts {
	both := countsOf(a)
	for _, m := range b {
		both[m.Node] = max(both[m.Node], m.N)
	}
	return both
}

func indexOf(sibs []impl.Sib, dot impl.Mark) int {
	return slices.IndexFunc(sibs, func(x impl.Sib) bool { return x.Dot == dot })
}

func sortSibs(sibs []impl.Sib) {
	slices.SortFunc(sibs, func(a impl.Sib, b impl.Sib) int {
		if a.Dot.Node != b.Dot.Node {
			return int(a.Dot.Node - b.Dot.Node)
		}
		return int(a.Dot.N - b.Dot.N)
	})
}

// putOf writes as the document says it, for valid arguments.
func putOf(s impl.Set, seen []impl.Mark, node int64, data string, gone bool) impl.SetOut {
	known, read := joinedCounts(s.Seen, seen), countsOf(seen)
	known[node]++
	x := impl.Sib{Dot: impl.Mark{Node: node, N: known[node]}, Gone: gone, Data: data}
	sibs := []impl.Sib{x}
	for _, old := range s.Sibs {
		if !read.has(old.Dot) {
			sibs = append(sibs, old)
		}
	}
	if x.Dot.N > 1000000 || len(sibs) > 8 {
		return impl.SetOut{Code: impl.ErrFull}
	}
	sortSibs(sibs)
	return impl.SetOut{Set: impl.Set{Seen: known.marks(), Sibs: sibs}, Dot: x.Dot}
}

// syncOf merges as the document says it, for valid arguments.
func syncOf(a impl.Set, b impl.Set) impl.SetOut {
	var sibs []impl.Sib
	for _, x := range a.Sibs {
		if indexOf(b.Sibs, x.Dot) >= 0 || !countsOf(b.Seen).has(x.Dot) {
			sibs = append(sibs, x)
		}
	}
	for _, x := range b.Sibs {
		if indexOf(a.Sibs, x.Dot) < 0 && !countsOf(a.Seen).has(x.Dot) {
			sibs = append(sibs, x)
		}
	}
	if len(sibs) > 8 {
		return impl.SetOut{Code: impl.ErrFull}
	}
	sortSibs(sibs)
	return impl.SetOut{Set: impl.Set{Seen: joinedCounts(a.Seen, b.Seen).marks(), Sibs: sibs}}
}

func TestSetExamples(t *testing.T) {
	if impl.MaxSibs != 8 || impl.MaxData != 16 {
		t.Errorf("limits: %d, %d", impl.MaxSibs, impl.MaxData)
	}
	x := impl.Sib{Dot: impl.Mark{Node: 1, N: 1}, Data: "x"}
	y := impl.Sib{Dot: impl.Mark{Node: 2, N: 1}, Data: "y"}
	z := impl.Sib{Dot: impl.Mark{Node: 1, N: 2}, Data: "z"}
	first := impl.SetPut(impl.Set{}, nil, 1, "x", false)
	wantSetOut(t, "first", first, impl.SetOut{Set: impl.Set{Seen: counts{0, 1}.marks(), Sibs: []impl.Sib{x}}, Dot: x.Dot})
	second := impl.SetPut(first.Set, nil, 2, "y", false)
	wantSetOut(t, "second", second, impl.SetOut{Set: impl.Set{Seen: counts{0, 1, 1}.marks(), Sibs: []impl.Sib{x, y}}, Dot: y.Dot})
	third := impl.SetPut(second.Set, first.Set.Seen, 1, "z", false)
	want := impl.Set{Seen: counts{0, 2, 1}.marks(), Sibs: []impl.Sib{z, y}}
	wantSetOut(t, "third", third, impl.SetOut{Set: want, Dot: z.Dot})
	wantSetOut(t, "first, third", impl.SetSync(first.Set, third.Set), impl.SetOut{Set: want})
	wantSetOut(t, "third, first", impl.SetSync(third.Set, first.Set), impl.SetOut{Set: want})
	for i, values := range [][]string{{"x"}, {"x", "y"}, {"z", "y"}} {
		if got := impl.Values([]impl.Set{first.Set, second.Set, third.Set}[i]); !slices.Equal(got, values) {
			t.Errorf("Values after write %d: got %q", i, got)
		}
	}
}

func TestSetRight(t *testing.T) {
	seen := counts{0, 2, 0, 3, 0, impl.MaxTime}.marks()
	full := impl.Sib{Dot: impl.Mark{Node: 3, N: 3}, Data: someText(impl.MaxData)}
	gone := impl.Sib{Dot: impl.Mark{Node: 5, N: impl.MaxTime}, Gone: true}
	for _, s := range append(someSets(), impl.Set{}, impl.Set{Seen: []impl.Mark{}, Sibs: []impl.Sib{}},
		nodeSet(1, 1), nodeSet(1, impl.MaxSibs), nodeSet(5, impl.MaxSibs), impl.Set{Seen: seen},
		impl.Set{Seen: seen, Sibs: []impl.Sib{full, gone}}, impl.Set{Seen: seen, Sibs: []impl.Sib{{Dot: full.Dot}}},
		// A greater N of a lower node comes first.
		impl.Set{Seen: seen, Sibs: []impl.Sib{sibOf(1, 2), sibOf(3, 1)}}) {
		if !impl.SetRight(s) {
			t.Errorf("SetRight(%#v) is false", s)
		}
	}
	for i, s := range notSets() {
		if impl.SetRight(s) {
			t.Errorf("SetRight of %d, with %d and %d elements, is true", i, len(s.Seen), len(s.Sibs))
		}
	}
}

// TestSetRightOfAnyPair tries every pair of dots around a version vector.
func TestSetRightOfAnyPair(t *testing.T) {
	var dots []impl.Mark
	for node := int64(0); node <= 6; node++ {
		for n := int64(0); n <= 3; n++ {
			dots = append(dots, impl.Mark{Node: node, N: n})
		}
	}
	seen := counts{0, 2, 0, 1, 0, 2}
	for i, a := range dots {
		for j, b := range dots {
			s := impl.Set{Seen: seen.marks(), Sibs: []impl.Sib{{Dot: a}, {Dot: b}}}
			if got := impl.SetRight(s); got != (i < j && seen.has(a) && seen.has(b)) {
				t.Errorf("SetRight of %#v and %#v: got %#v", a, b, got)
			}
		}
	}
}

// Promise 4.

func TestWritesReplaceWhatWasRead(t *testing.T) {
	contexts := append(someCounts(), counts{})
	for i, s := range someSets() {
		for j, c := range contexts {
			seen := c.marks()
			node := int64((i+j)%impl.MaxNodes + 1)
			data, gone := someText(j%17), j%17 == 0 && i%2 == 0
			got := impl.SetPut(s, seen, node, data, gone)
			wantSetOut(t, "SetPut", got, putOf(s, seen, node, data, gone))
			if got.Code == impl.OK {
				wantWritten(t, s, seen, got)
			}
		}
	}
}

// wantWritten is promise 4 by itself: each sibling was there before and unread, or is the write.
func wantWritten(t *testing.T, s impl.Set, seen []impl.Mark, got impl.SetOut) {
	t.Helper()
	if impl.SeenHas(s.Seen, got.Dot) || impl.SeenHas(seen, got.Dot) || !impl.SetHas(got.Set, got.Dot) || !impl.SetRight(got.Set) {
		t.Fatalf("SetPut(%#v, %#v): got %#v", s, seen, got)
	}
	for _, x := range s.Sibs {
		if impl.SetHas(got.Set, x.Dot) == impl.SeenHas(seen, x.Dot) {
			t.Fatalf("SetPut(%#v, %#v): got %#v: %#v", s, seen, got, x)
		}
	}
	for _, x := range got.Set.Sibs {
		if x.Dot != got.Dot && !slices.Contains(s.Sibs, x) {
			t.Fatalf("SetPut(%#v, %#v): got %#v: %#v", s, seen, got, x)
		}
	}
}

func TestSetPutAtEachNode(t *testing.T) {
	s := impl.Set{Seen: counts{0, 3, 0, 2, 4}.marks(), Sibs: []impl.Sib{sibOf(1, 3), sibOf(3, 2), sibOf(4, 4)}}
	seen := counts{0, 5, 2, 1, 0, 1}.marks()
	for node, n := range (counts{0, 6, 3, 3, 5, 2}) {
		if node == 0 {
			continue
		}
		got := impl.SetPut(s, seen, int64(node), "v", false)
		if want := (impl.Mark{Node: int64(node), N: n}); got.Dot != want {
			t.Errorf("SetPut at %d: got %#v", node, got.Dot)
		}
		wantSetOut(t, "SetPut", got, putOf(s, seen, int64(node), "v", false))
	}
}

func TestDeletionsAreSiblings(t *testing.T) {
	s := nodeSet(2, 2)
	got := impl.SetPut(s, nil, 1, "", true)
	wantSetOut(t, "unread", got, putOf(s, nil, 1, "", true))
	if len(got.Set.Sibs) != 3 || !got.Set.Sibs[0].Gone {
		t.Errorf("a deletion beside what was not read: got %#v", got.Set)
	}
	over := impl.SetPut(s, s.Seen, 1, "", true)
	if len(over.Set.Sibs) != 1 || !over.Set.Sibs[0].Gone || len(impl.Values(over.Set)) != 0 {
		t.Errorf("a deletion of what was read: got %#v", over.Set)
	}
	back := impl.SetPut(over.Set, over.Set.Seen, 1, "", false)
	if !slices.Equal(impl.Values(back.Set), []string{""}) {
		t.Errorf("an empty value over a deletion: got %#v", back.Set)
	}
}

func TestSetPutForm(t *testing.T) {
	s, seen := nodeSet(1, 2), counts{0, 1}.marks()
	for i, wrong := range notSets() {
		if got := impl.SetPut(wrong, seen, 1, "x", false); got.Code != impl.ErrForm || len(got.Set.Seen)+len(got.Set.Sibs) > 0 || got.Dot != (impl.Mark{}) {
			t.Errorf("SetPut on invalid Set %d: got %#v", i, got)
		}
	}
	for _, v := range notSeen() {
		wantSetCode(t, "invalid seen", impl.SetPut(s, v, 1, "x", false), impl.ErrForm)
	}
	for _, node := range []int64{math.MinInt64, -1, 0, impl.MaxNodes + 1, math.MaxInt64} {
		wantSetCode(t, "invalid node", impl.SetPut(s, seen, node, "x", false), impl.ErrForm)
	}
	for _, size := range []int{impl.MaxData + 1, 100, impl.MaxBytes} {
		wantSetCode(t, "long data", impl.SetPut(s, seen, 1, someText(size), false), impl.ErrForm)
		wantSetCode(t, "long data of a deletion", impl.SetPut(s, seen, 1, someText(size), true), impl.ErrForm)
	}
	for _, size := range []int{1, impl.MaxData} {
		wantSetCode(t, "deletion with data", impl.SetPut(s, seen, 1, someText(size), true), impl.ErrForm)
	}
	for _, node := range []int64{1, impl.MaxNodes} {
		data := someText(impl.MaxData)
		wantSetOut(t, "limits", impl.SetPut(s, seen, node, data, false), putOf(s, seen, node, data, false))
		wantSetOut(t, "deletion", impl.SetPut(s, seen, node, "", true), putOf(s, seen, node, "", true))
	}
}

func TestSetPutSize(t *testing.T) {
	long := someText(impl.MaxBytes + 1)
	for _, s := range []impl.Set{{}, nodeSet(1, 2), nodeSet(1, impl.MaxSibs), nodeSet(1, impl.MaxSibs+1), {Seen: repeated(impl.Mark{}, 1)}} {
		for _, node := range []int64{0, 1, impl.MaxNodes + 1} {
			for _, v := range tooLong() {
				wantSetCode(t, "long seen", impl.SetPut(s, v, node, "x", true), impl.ErrSize)
				wantSetCode(t, "long seen and data", impl.SetPut(s, v, node, long, false), impl.ErrSize)
			}
			wantSetCode(t, "long data", impl.SetPut(s, nil, node, long, false), impl.ErrSize)
			wantSetCode(t, "long data, invalid seen", impl.SetPut(s, repeated(impl.Mark{}, impl.MaxList), node, long, true), impl.ErrSize)
		}
	}
}

func TestSetPutFull(t *testing.T) {
	most := impl.Set{Seen: []impl.Mark{{Node: 2, N: impl.MaxTime}}}
	wantSetCode(t, "last write of the Set", impl.SetPut(most, nil, 2, "x", false), impl.ErrFull)
	wantSetCode(t, "last write of seen", impl.SetPut(impl.Set{}, most.Seen, 2, "x", false), impl.ErrFull)
	wantSetOut(t, "another node", impl.SetPut(most, most.Seen, 1, "x", false), putOf(most, nil, 1, "x", false))
	last := impl.SetPut(impl.Set{}, []impl.Mark{{Node: 2, N: impl.MaxTime - 1}}, 2, "x", false)
	wantSetOut(t, "the last N", last, impl.SetOut{Dot: impl.Mark{Node: 2, N: impl.MaxTime},
		Set: impl.Set{Seen: most.Seen, Sibs: []impl.Sib{{Dot: most.Seen[0], Data: "x"}}}})

	eight := nodeSet(3, impl.MaxSibs)
	for _, node := range []int64{1, 3, 5} {
		wantSetCode(t, "ninth", impl.SetPut(eight, nil, node, "x", false), impl.ErrFull)
		wantSetCode(t, "ninth, other writes read", impl.SetPut(eight, counts{0, 9, 9, 0, 9, 9}.marks(), node, "x", false), impl.ErrFull)
		wantSetCode(t, "ninth, a deletion", impl.SetPut(eight, nil, node, "", true), impl.ErrFull)
		seen := counts{0, 0, 0, 1}.marks()
		wantSetOut(t, "eighth again", impl.SetPut(eight, seen, node, "x", false), putOf(eight, seen, node, "x", false))
		seven := nodeSet(3, impl.MaxSibs-1)
		wantSetOut(t, "eighth", impl.SetPut(seven, nil, node, "x", false), putOf(seven, nil, node, "x", false))
	}
	wantSetCode(t, "invalid and full", impl.SetPut(eight, nil, 0, "x", false), impl.ErrForm)
	wantSetCode(t, "invalid and full", impl.SetPut(eight, nil, 1, "x", true), impl.ErrForm)
	wantSetCode(t, "invalid and full", impl.SetPut(most, repeated(impl.Mark{}, 1), 2, "x", false), impl.ErrForm)
	wantSetCode(t, "invalid and full", impl.SetPut(most, nil, 2, someText(impl.MaxData+1), false), impl.ErrForm)
}

// Promise 5.

func TestSetSync(t *testing.T) {
	sets := someSets()
	full := 0
	for _, a := range sets {
		for _, b := range sets {
			got := impl.SetSync(a, b)
			wantSetOut(t, "SetSync", got, syncOf(a, b))
			wantSetOut(t, "SetSync exchanged", impl.SetSync(b, a), got)
			if got.Code == impl.ErrFull {
				full++
			} else if !impl.SetRight(got.Set) {
				t.Fatalf("SetSync(%#v, %#v): got %#v", a, b, got)
			}
		}
		wantSetOut(t, "with itself", impl.SetSync(a, a), impl.SetOut{Set: a})
		wantSetOut(t, "with nothing", impl.SetSync(a, impl.Set{}), impl.SetOut{Set: a})
		wantSetOut(t, "nothing with", impl.SetSync(impl.Set{}, a), impl.SetOut{Set: a})
	}
	if full == 0 {
		t.Error("no two Sets have too many siblings")
	}
}

func TestMergingIsAssociative(t *testing.T) {
	sets := someSets()
	r := rand.New(rand.NewSource(5))
	for range 20000 {
		a, b, c := sets[r.Intn(len(sets))], sets[r.Intn(len(sets))], sets[r.Intn(len(sets))]
		wantAssociative(t, a, b, c)
	}
	small := smallSets()
	for _, b := range small {
		for i, a := range small {
			wantAssociative(t, a, b, small[(7*i+3)%len(small)])
		}
	}
}

// wantAssociative leaves out what is full on the way, as another order may avoid it.
func wantAssociative(t *testing.T, a impl.Set, b impl.Set, c impl.Set) {
	t.Helper()
	ab, bc := impl.SetSync(a, b), impl.SetSync(b, c)
	if ab.Code != impl.OK || bc.Code != impl.OK {
		return
	}
	left, right := impl.SetSync(ab.Set, c), impl.SetSync(a, bc.Set)
	wantSetOut(t, "merged in another order", left, right)
	if left.Code == impl.OK {
		wantSetOut(t, "merged again", impl.SetSync(left.Set, b), left)
	}
}

func TestMergingWithEverythingSeenAddsNothing(t *testing.T) {
	sets := someSets()
	for _, s := range sets {
		all := impl.Set{Seen: joinedCounts(s.Seen, counts{0, 1, 1, 1, 1, 1}.marks()).marks()}
		wantSetOut(t, "without siblings", impl.SetSync(s, all), impl.SetOut{Set: all})
		wantSetOut(t, "without siblings", impl.SetSync(all, s), impl.SetOut{Set: all})
		for _, other := range sets {
			if !impl.SeenLess(s.Seen, other.Seen) {
				continue
			}
			got := impl.SetSync(other, s)
			wantSeen(t, "Seen", got.Set.Seen, other.Seen)
			for _, x := range got.Set.Sibs {
				if !slices.Contains(other.Sibs, x) {
					t.Fatalf("SetSync(%#v, %#v): got %#v", other, s, got)
				}
			}
		}
	}
}

// history has the Sets that nodes have had which write, with what was read somewhere before or with nothing, and merge.
func history(seed int64) []impl.Set {
	r := rand.New(rand.NewSource(seed))
	nodes := make([]impl.Set, impl.MaxNodes+1)
	past := []impl.Set{{}}
	for range 40 {
		node := 1 + r.Intn(impl.MaxNodes)
		got := impl.SetSync(nodes[node], past[r.Intn(len(past))])
		if r.Intn(2) == 0 {
			got = impl.SetPut(nodes[node], past[r.Intn(len(past))].Seen, int64(node), someText(r.Intn(17)), false)
		}
		if got.Code == impl.OK {
			nodes[node] = got.Set
			past = append(past, got.Set)
		}
	}
	return past
}

func TestHistoriesMergeToTheLatest(t *testing.T) {
	for seed := range int64(8) {
		past := history(seed)
		for _, a := range past {
			for _, b := range past {
				got := impl.SetSync(a, b)
				wantSetOut(t, "exchanged", impl.SetSync(b, a), got)
				if impl.SeenLess(a.Seen, b.Seen) {
					wantSetOut(t, "with a Set that has seen everything", got, impl.SetOut{Set: b})
				}
				wantAssociative(t, a, b, past[len(past)-1])
			}
		}
	}
}

func TestSharedSiblingsHaveTheFirstContents(t *testing.T) {
	named := func(data string, seen []impl.Mark) impl.Set {
		return impl.Set{Seen: seen, Sibs: []impl.Sib{{Dot: impl.Mark{Node: 2, N: 1}, Data: data}}}
	}
	a, b := named("a", counts{0, 0, 1}.marks()), named("b", counts{0, 0, 1, 1}.marks())
	gone := impl.Set{Seen: a.Seen, Sibs: []impl.Sib{{Dot: impl.Mark{Node: 2, N: 1}, Gone: true}}}
	wantSetOut(t, "a, b", impl.SetSync(a, b), impl.SetOut{Set: named("a", b.Seen)})
	wantSetOut(t, "b, a", impl.SetSync(b, a), impl.SetOut{Set: b})
	wantSetOut(t, "a, gone", impl.SetSync(a, gone), impl.SetOut{Set: a})
	wantSetOut(t, "gone, a", impl.SetSync(gone, a), impl.SetOut{Set: gone})
}

func TestSetSyncErrors(t *testing.T) {
	for i, wrong := range notSets() {
		for _, s := range []impl.Set{{}, nodeSet(2, 3), nodeSet(4, impl.MaxSibs), wrong} {
			for _, got := range []impl.SetOut{impl.SetSync(wrong, s), impl.SetSync(s, wrong)} {
				if got.Code != impl.ErrForm || len(got.Set.Seen)+len(got.Set.Sibs) > 0 || got.Dot != (impl.Mark{}) {
					t.Errorf("SetSync of invalid Set %d: got %#v", i, got)
				}
			}
		}
	}
	for a := int64(0); a <= impl.MaxSibs; a++ {
		for b := int64(0); b <= impl.MaxSibs; b++ {
			got := impl.SetSync(nodeSet(2, a+1), nodeSet(1, b+1))
			if a == impl.MaxSibs || b == impl.MaxSibs {
				wantSetCode(t, "nine siblings in one", got, impl.ErrForm)
			} else if a+b+2 > impl.MaxSibs {
				wantSetCode(t, "more than eight siblings", got, impl.ErrFull)
			} else {
				wantSetOut(t, "at most eight siblings", got, syncOf(nodeSet(2, a+1), nodeSet(1, b+1)))
			}
		}
	}
}

// TestSetSyncCountsWhatRemains has sixteen siblings in both Sets together, eight of which remain.
func TestSetSyncCountsWhatRemains(t *testing.T) {
	eight := nodeSet(2, impl.MaxSibs)
	wantSetOut(t, "the same", impl.SetSync(eight, eight), impl.SetOut{Set: eight})
	later := nodeSet(4, impl.MaxSibs)
	later.Seen = counts{0, 0, impl.MaxSibs, 0, impl.MaxSibs}.marks()
	wantSetOut(t, "overwritten", impl.SetSync(eight, later), impl.SetOut{Set: later})
	wantSetOut(t, "overwritten", impl.SetSync(later, eight), impl.SetOut{Set: later})
	later.Seen = counts{0, 0, impl.MaxSibs - 1, 0, impl.MaxSibs}.marks()
	wantSetCode(t, "all but one overwritten", impl.SetSync(eight, later), impl.ErrFull)
	wantSetCode(t, "all but one overwritten", impl.SetSync(later, eight), impl.ErrFull)
}

func TestSetHas(t *testing.T) {
	dots := someDots()
	for _, s := range someSets() {
		for _, dot := range dots {
			if got := impl.SetHas(s, dot); got != (indexOf(s.Sibs, dot) >= 0) {
				t.Errorf("SetHas(%#v, %#v): got %#v", s, dot, got)
			}
		}
	}
	for i, s := range notSets() {
		for _, x := range append(s.Sibs, sibOf(1, 1)) {
			if impl.SetHas(s, x.Dot) {
				t.Errorf("SetHas of invalid Set %d and %#v is true", i, x.Dot)
			}
		}
	}
}

func TestValues(t *testing.T) {
	for _, s := range someSets() {
		var want []string
		for _, x := range s.Sibs {
			if !x.Gone {
				want = append(want, x.Data)
			}
		}
		if got := impl.Values(s); !slices.Equal(got, want) {
			t.Errorf("Values(%#v): got %q, want %q", s, got, want)
		}
	}
	for i, s := range notSets() {
		if got := impl.Values(s); len(got) != 0 {
			t.Errorf("Values of invalid Set %d: got %d", i, len(got))
		}
	}
}

func copyOf(s impl.Set) impl.Set {
	return impl.Set{Seen: slices.Clone(s.Seen), Sibs: slices.Clone(s.Sibs)}
}

// roomy has room behind its lists, so that an append to them would not move them.
func roomy(s impl.Set) impl.Set {
	return impl.Set{Seen: append(make([]impl.Mark, 0, 20), s.Seen...), Sibs: append(make([]impl.Sib, 0, 20), s.Sibs...)}
}

func spoil(s impl.Set) {
	for i := range s.Seen {
		s.Seen[i] = impl.Mark{Node: 9, N: 9}
	}
	for i := range s.Sibs {
		s.Sibs[i] = impl.Sib{Data: "spoiled"}
	}
}

func wantUntouched(t *testing.T, what string, s impl.Set, want impl.Set) {
	t.Helper()
	if !sameSet(s, want) {
		t.Errorf("%s: got %#v, want %#v", what, s, want)
	}
	behind := impl.Set{Seen: s.Seen[len(s.Seen):20], Sibs: s.Sibs[len(s.Sibs):20]}
	if !sameSet(behind, impl.Set{Seen: make([]impl.Mark, 20-len(s.Seen)), Sibs: make([]impl.Sib, 20-len(s.Sibs))}) {
		t.Errorf("%s: changed behind its end: %#v", what, behind)
	}
}

func TestSetsAreNewMemory(t *testing.T) {
	for name, change := range map[string]func(a impl.Set, b impl.Set) impl.SetOut{
		"put, nothing read": func(a impl.Set, b impl.Set) impl.SetOut { return impl.SetPut(a, nil, 1, "x", false) },
		"put at the end":    func(a impl.Set, b impl.Set) impl.SetOut { return impl.SetPut(a, nil, 5, "x", false) },
		"put, one read":     func(a impl.Set, b impl.Set) impl.SetOut { return impl.SetPut(a, a.Seen[:1], 3, "x", false) },
		"put, others read":  func(a impl.Set, b impl.Set) impl.SetOut { return impl.SetPut(a, b.Seen, 3, "x", false) },
		"put, all read":     func(a impl.Set, b impl.Set) impl.SetOut { return impl.SetPut(a, a.Seen, 3, "x", false) },
		"put to nothing":    func(a impl.Set, b impl.Set) impl.SetOut { return impl.SetPut(impl.Set{}, a.Seen, 3, "x", false) },
		"sync":              impl.SetSync,
		"sync with itself":  func(a impl.Set, b impl.Set) impl.SetOut { return impl.SetSync(a, a) },
		"sync with nothing": func(a impl.Set, b impl.Set) impl.SetOut { return impl.SetSync(a, impl.Set{}) },
		"nothing synced":    func(a impl.Set, b impl.Set) impl.SetOut { return impl.SetSync(impl.Set{}, a) },
		"sync with no more": func(a impl.Set, b impl.Set) impl.SetOut { return impl.SetSync(a, impl.Set{Seen: b.Seen}) },
	} {
		oldA := impl.Set{Seen: counts{0, 0, 2, 0, 2}.marks(), Sibs: []impl.Sib{sibOf(2, 1), sibOf(2, 2), sibOf(4, 1), sibOf(4, 2)}}
		oldB := impl.Set{Seen: counts{0, 0, 1, 2}.marks(), Sibs: []impl.Sib{sibOf(2, 1), sibOf(3, 1)}}
		a, b := roomy(oldA), roomy(oldB)
		got := change(a, b)
		if got.Code != impl.OK {
			t.Errorf("%s: code %d", name, got.Code)
		}
		wantUntouched(t, name, a, oldA)
		wantUntouched(t, name, b, oldB)
		want := copyOf(got.Set)
		spoil(a)
		spoil(b)
		wantSetOut(t, name+", arguments spoiled", impl.SetOut{Set: got.Set}, impl.SetOut{Set: want})
		a, b = roomy(oldA), roomy(oldB)
		spoil(change(a, b).Set)
		wantUntouched(t, name+", result spoiled", a, oldA)
		wantUntouched(t, name+", result spoiled", b, oldB)
	}
}

func TestValuesAreNewMemory(t *testing.T) {
	s := roomy(nodeSet(2, 3))
	values := impl.Values(s)
	for i := range values {
		values[i] = "spoiled"
	}
	wantUntouched(t, "Values", s, nodeSet(2, 3))
	text := setText(s)
	first, second := impl.SetRead(text).Set, impl.SetRead(text).Set
	spoil(first)
	if !sameSet(second, nodeSet(2, 3)) {
		t.Errorf("SetRead twice: got %#v", second)
	}
}

// setParts encodes with another implementation of the integers, each a part of its own; the Set may be invalid.
func setParts(s impl.Set) []string {
	num := func(n int64) string { return string(binary.AppendVarint(nil, n)) }
	parts := []string{num(int64(len(s.Seen)))}
	for _, m := range s.Seen {
		parts = append(parts, num(m.Node), num(m.N))
	}
	parts = append(parts, num(int64(len(s.Sibs))))
	for _, x := range s.Sibs {
		gone := int64(0)
		if x.Gone {
			gone = 1
		}
		parts = append(parts, num(x.Dot.Node), num(x.Dot.N), num(gone), num(int64(len(x.Data))), x.Data)
	}
	return parts
}

func setText(s impl.Set) string {
	return strings.Join(setParts(s), "")
}

// isNumber leaves out the last of the five parts of each sibling, its Data.
func isNumber(s impl.Set, part int) bool {
	sib := part - 2 - 2*len(s.Seen)
	return sib < 0 || sib%5 != 4
}

func TestSetBytes(t *testing.T) {
	if got := impl.SetBytes(impl.Set{}); got != "\x00\x00" {
		t.Errorf("SetBytes of nothing: got %q", got)
	}
	s := impl.Set{Seen: counts{0, 2, 1}.marks(), Sibs: []impl.Sib{{Dot: impl.Mark{Node: 1, N: 2}, Data: "z"}, {Dot: impl.Mark{Node: 2, N: 1}, Gone: true}}}
	if got := impl.SetBytes(s); got != "\x04\x02\x04\x04\x02\x04\x02\x04\x00\x02z\x04\x02\x02\x00" {
		t.Errorf("SetBytes: got %q", got)
	}
	for _, s := range someSets() {
		if got, want := impl.SetBytes(s), setText(s); got != want {
			t.Errorf("SetBytes(%#v): got %q, want %q", s, got, want)
		}
	}
	for i, s := range notSets() {
		if got := impl.SetBytes(s); got != "" {
			t.Errorf("SetBytes of invalid Set %d: got %s", i, shown(got))
		}
	}
}

func TestSetsAreDecoded(t *testing.T) {
	for _, s := range append(someSets(), nodeSet(5, impl.MaxSibs)) {
		text := setText(s)
		wantSetOut(t, "SetRead", impl.SetRead(text), impl.SetOut{Set: s})
		for cut := range len(text) {
			wantSetCode(t, "SetRead of a part", impl.SetRead(text[:cut]), impl.ErrSyntax)
		}
		for _, more := range []string{"\x00", "\x02", "\x80", "\x02\x02\x00\x00", text} {
			wantSetCode(t, "SetRead with more behind", impl.SetRead(text+more), impl.ErrSyntax)
		}
	}
}

func TestLongerNumbersOfSetsAreRejected(t *testing.T) {
	for _, s := range someSets() {
		for i := range setParts(s) {
			parts := setParts(s)
			if isNumber(s, i) {
				last := len(parts[i]) - 1
				parts[i] = parts[i][:last] + string([]byte{parts[i][last] | 128, 0})
				wantSetCode(t, "SetRead with a longer number", impl.SetRead(strings.Join(parts, "")), impl.ErrSyntax)
			}
		}
	}
}

func TestWrongNumbersOfSetsAreRejected(t *testing.T) {
	s := impl.Set{Seen: counts{0, 2, 0, 1}.marks(), Sibs: []impl.Sib{sibOf(1, 1), {Dot: impl.Mark{Node: 1, N: 2}, Gone: true}, {Dot: impl.Mark{Node: 3, N: 1}, Data: "abc"}}}
	for i := range setParts(s) {
		for _, n := range []int64{-1, 4, 5, 6, 9, 17, 63, 64, impl.MaxSibs + 1, impl.MaxBytes, impl.MaxBytes + 1,
			impl.MaxTime + 1, 1 << 32, 1<<32 + 1, math.MaxInt64, math.MinInt64} {
			if parts := setParts(s); isNumber(s, i) {
				parts[i] = impl.PutNum(n)
				wantReadBack(t, strings.Join(parts, ""))
			}
		}
	}
	for _, gone := range []int64{-1, 2, 3, 64, 1 << 32, 1<<32 + 1, math.MinInt64, math.MaxInt64} {
		text := "\x02\x02\x02\x02\x02\x02" + impl.PutNum(gone) + "\x00"
		wantSetCode(t, "SetRead with another Gone", impl.SetRead(text), impl.ErrSyntax)
	}
	wantSetOut(t, "SetRead", impl.SetRead("\x02\x02\x02\x02\x02\x02\x00\x00"), impl.SetOut{Set: impl.Set{Seen: counts{0, 1}.marks(), Sibs: []impl.Sib{{Dot: impl.Mark{Node: 1, N: 1}}}}})
	wantSetOut(t, "SetRead", impl.SetRead("\x02\x02\x02\x02\x02\x02\x02\x00"), impl.SetOut{Set: impl.Set{Seen: counts{0, 1}.marks(), Sibs: []impl.Sib{{Dot: impl.Mark{Node: 1, N: 1}, Gone: true}}}})
}

func TestSetReadErrors(t *testing.T) {
	for _, text := range []string{"", "x", "\x00", "\x80", "\x80\x00", "\x00\x01", "\x00\x80", "\x00\x80\x00", "\x00\x00\x00",
		"\x00\x02", "\x00\x12", "\x00\x03", "\x02\x02\x02", "\x02\x02\x02\x02\x02\x02\x00\x01", "\x02\x02\x02\x12",
		"\x00" + impl.PutNum(math.MaxInt64), "\x00" + impl.PutNum(math.MinInt64), "\x00" + impl.PutNum(1<<32),
		strings.Repeat("\x00", impl.MaxBytes), strings.Repeat("\x02", impl.MaxBytes), "\x02\x02\x02\x02\x02\x02\x00" + impl.PutText(someText(7000)),
	} {
		wantSetCode(t, "SetRead of "+shown(text), impl.SetRead(text), impl.ErrSyntax)
	}
	for i, s := range notSets() {
		want := int64(impl.ErrSyntax)
		text := setText(s)
		if len(text) > impl.MaxBytes {
			want = impl.ErrSize
		}
		if got := impl.SetRead(text); got.Code != want || len(got.Set.Seen)+len(got.Set.Sibs) > 0 || got.Dot != (impl.Mark{}) {
			t.Errorf("SetRead of invalid Set %d: got %#v", i, got)
		}
	}
	for _, text := range []string{strings.Repeat("\x00", impl.MaxBytes+1), strings.Repeat("\x80", 2*impl.MaxBytes),
		setText(nodeSet(1, 2)) + strings.Repeat("\x00", impl.MaxBytes)} {
		wantSetCode(t, "SetRead of "+shown(text), impl.SetRead(text), impl.ErrSize)
	}
}

// TestSetReadOfAnyBytes changes encodings; what is still accepted must be the encoding of a valid Set.
func TestSetReadOfAnyBytes(t *testing.T) {
	sets := append(smallSets(), nodeSet(4, impl.MaxSibs))
	for _, s := range sets {
		text := []byte(setText(s))
		for i := range text {
			for _, change := range []byte{1, 2, 3, 4, 6, 8, 16, 32, 64, 128, 255} {
				b := slices.Clone(text)
				b[i] ^= change
				wantReadBack(t, string(b))
			}
		}
	}
	for a := range 256 {
		for b := range 256 {
			wantReadBack(t, string([]byte{byte(a), byte(b)}))
			for c := range 8 {
				wantReadBack(t, string([]byte{2, byte(a), byte(b), byte(c)}))
			}
		}
	}
}

func wantReadBack(t *testing.T, text string) {
	t.Helper()
	got := impl.SetRead(text)
	if got.Code == impl.OK && impl.SetRight(got.Set) && setText(got.Set) == text && got.Dot == (impl.Mark{}) {
		return
	}
	if got.Code != impl.ErrSyntax || len(got.Set.Seen)+len(got.Set.Sibs) > 0 || got.Dot != (impl.Mark{}) {
		t.Fatalf("SetRead(%q): got %#v", text, got)
	}
}
