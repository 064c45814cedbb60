package tests

import (
	"encoding/binary"
	"math"
	"math/rand"
	"slices"
	"strings"
	"testing"

	"loop.example/g00659/impl"
)

// counts is a version vector as the number of the last write of each node, 0 where there is none; counts[0] is unused.
type counts [impl.MaxNodes + 1]int64

func (c counts) marks() []impl.Mark {
	var v []impl.Mark
	for node, n := range c {
		if n > 0 {
			v = append(v, impl.Mark{Node: int64(node), N: n})
		}
	}
	return v
}

// someCounts has every version vector of three of the nodes with at most two writes of each, and ones with all sizes and limits.
func someCounts() []counts {
	l := []counts{{0, 1, 1, 1, 1, 1}, {0, impl.MaxTime, impl.MaxTime, impl.MaxTime, impl.MaxTime, impl.MaxTime}}
	for i := range 27 {
		l = append(l, counts{0, int64(i % 3), 0, int64(i / 3 % 3), 0, int64(i / 9)})
	}
	r := rand.New(rand.NewSource(3))
	for range 60 {
		var c counts
		for node := 1; node <= impl.MaxNodes; node++ {
			c[node] = []int64{0, 0, 1, 2, 63, 64, 8191, 8192, impl.MaxTime - 1, impl.MaxTime}[r.Intn(10)]
		}
		l = append(l, c)
	}
	return l
}

// someDots has valid and invalid dots around each of the numbers of someCounts.
func someDots() []impl.Mark {
	var l []impl.Mark
	for _, node := range []int64{math.MinInt64, -1, 0, 1, 2, 3, 4, 5, 6, 7, math.MaxInt64} {
		for _, n := range []int64{math.MinInt64, -1, 0, 1, 2, 3, 62, 63, 64, 65, 8191, 8192, 8193,
			impl.MaxTime - 2, impl.MaxTime - 1, impl.MaxTime, impl.MaxTime + 1, math.MaxInt64} {
			l = append(l, impl.Mark{Node: node, N: n})
		}
	}
	return l
}

func isDot(dot impl.Mark) bool {
	return slices.Contains([]int64{1, 2, 3, 4, 5}, dot.Node) && dot.N > 0 && dot.N < 1000001
}

func (c counts) has(dot impl.Mark) bool {
	return isDot(dot) && dot.N <= c[dot.Node]
}

func repeated(m impl.Mark, times int) []impl.Mark {
	return slices.Repeat([]impl.Mark{m}, times)
}

// notSeen has lists that are no version vectors, for one reason each as far as possible.
func notSeen() [][]impl.Mark {
	l := [][]impl.Mark{
		{{Node: 2, N: 1}, {Node: 1, N: 1}}, {{Node: 1, N: 1}, {Node: 1, N: 1}}, {{Node: 1, N: 1}, {Node: 1, N: 2}},
		{{Node: 5, N: 1}, {Node: 4, N: 1}}, {{Node: 1, N: 1}, {Node: 3, N: 1}, {Node: 2, N: 1}},
		{{Node: 1, N: 1}, {Node: 2, N: 1}, {Node: 2, N: 1}}, {{Node: 2, N: 1}, {Node: 3, N: 1}, {Node: 1, N: 1}},
		{{Node: 1, N: 2}, {Node: 5, N: 0}}, {{Node: 1, N: 0}, {Node: 5, N: 2}}, {{Node: 0, N: 1}, {Node: 1, N: 1}},
		{{Node: 1, N: 1}, {Node: 6, N: 1}}, {{Node: 1, N: impl.MaxTime + 1}, {Node: 2, N: 1}}, {{}},
		append(counts{0, 1, 1, 1, 1, 1}.marks(), impl.Mark{Node: 6, N: 1}),
		append(counts{0, 1, 1, 1, 1, 1}.marks(), impl.Mark{Node: 5, N: 1}),
		append(counts{0, 1, 1, 1, 1, 1}.marks(), impl.Mark{}),
		append([]impl.Mark{{}}, counts{0, 1, 1, 1, 1, 1}.marks()...),
		repeated(impl.Mark{Node: 1, N: 1}, impl.MaxList), repeated(impl.Mark{}, impl.MaxList),
		append(counts{0, 1, 1, 1, 1, 1}.marks(), repeated(impl.Mark{}, impl.MaxList-5)...),
	}
	for _, dot := range someDots() {
		if !isDot(dot) {
			l = append(l, []impl.Mark{dot})
		}
	}
	return l
}

// tooLong has lists of more than MaxList elements.
func tooLong() [][]impl.Mark {
	return [][]impl.Mark{
		repeated(impl.Mark{Node: 1, N: 1}, impl.MaxList+1), repeated(impl.Mark{}, impl.MaxList+1),
		append(counts{0, 1, 2, 3, 4, 5}.marks(), repeated(impl.Mark{}, impl.MaxList)...),
		repeated(impl.Mark{Node: 5, N: impl.MaxTime}, 3*impl.MaxList),
	}
}

func wrongSeen() [][]impl.Mark {
	return append(notSeen(), tooLong()...)
}

func wantSeen(t *testing.T, what string, got []impl.Mark, want []impl.Mark) {
	t.Helper()
	if !slices.Equal(got, want) {
		t.Errorf("%s: got %v, want %v", what, got, want)
	}
}

func wantSeenOut(t *testing.T, what string, got impl.SeenOut, want impl.SeenOut) {
	t.Helper()
	if got.Code != want.Code || !slices.Equal(got.Seen, want.Seen) {
		t.Errorf("%s: got %v, want %v", what, got, want)
	}
}

func TestSeenExamples(t *testing.T) {
	a := []impl.Mark{{Node: 1, N: 2}, {Node: 3, N: 1}}
	b := []impl.Mark{{Node: 1, N: 1}, {Node: 2, N: 5}}
	want := []impl.Mark{{Node: 1, N: 2}, {Node: 2, N: 5}, {Node: 3, N: 1}}
	wantSeen(t, "a, b", impl.SeenJoin(a, b), want)
	wantSeen(t, "b, a", impl.SeenJoin(b, a), want)
	if got := impl.SeenOf(a, 2); got != 0 {
		t.Errorf("SeenOf(a, 2): got %d", got)
	}
	if got := impl.SeenOf(a, 3); got != 1 {
		t.Errorf("SeenOf(a, 3): got %d", got)
	}
	if !impl.SeenHas(a, impl.Mark{Node: 1, N: 2}) || impl.SeenHas(a, impl.Mark{Node: 1, N: 3}) {
		t.Error("SeenHas(a)")
	}
	if impl.MaxNodes != 5 {
		t.Errorf("MaxNodes is %d", impl.MaxNodes)
	}
}

func TestSeenRight(t *testing.T) {
	for _, v := range [][]impl.Mark{nil, {}, {{Node: 1, N: 1}}, {{Node: 5, N: 1}}, {{Node: 1, N: impl.MaxTime}},
		{{Node: 5, N: impl.MaxTime}}, {{Node: 1, N: 7}, {Node: 2, N: 7}}, {{Node: 1, N: 9}, {Node: 5, N: 2}}} {
		if !impl.SeenRight(v) {
			t.Errorf("SeenRight(%v) is false", v)
		}
	}
	for _, c := range someCounts() {
		if !impl.SeenRight(c.marks()) {
			t.Errorf("SeenRight(%v) is false", c.marks())
		}
	}
	for _, v := range wrongSeen() {
		if impl.SeenRight(v) {
			t.Errorf("SeenRight of %d elements, %v, is true", len(v), v[0])
		}
	}
	for _, dot := range someDots() {
		if got := impl.SeenRight([]impl.Mark{dot}); got != isDot(dot) {
			t.Errorf("SeenRight of %v: got %v", dot, got)
		}
	}
}

// TestSeenRightOfAnyPair tries every pair of nodes from outside one end of their range to outside the other.
func TestSeenRightOfAnyPair(t *testing.T) {
	for first := int64(-1); first <= 7; first++ {
		for second := int64(-1); second <= 7; second++ {
			v := []impl.Mark{{Node: first, N: 2}, {Node: second, N: 1}}
			want := first >= 1 && first < second && second <= 5
			if got := impl.SeenRight(v); got != want {
				t.Errorf("SeenRight(%v): got %v", v, got)
			}
		}
	}
}

func TestSeenOf(t *testing.T) {
	for _, c := range someCounts() {
		for node := int64(1); node <= impl.MaxNodes; node++ {
			if got := impl.SeenOf(c.marks(), node); got != c[node] {
				t.Errorf("SeenOf(%v, %d): got %d", c.marks(), node, got)
			}
		}
		for _, node := range []int64{math.MinInt64, -1, 0, 6, 7, math.MaxInt64} {
			if got := impl.SeenOf(c.marks(), node); got != 0 {
				t.Errorf("SeenOf(%v, %d): got %d", c.marks(), node, got)
			}
		}
	}
	for _, v := range wrongSeen() {
		for _, node := range []int64{-1, 0, 1, 2, 3, 4, 5, 6, v[0].Node, v[len(v)-1].Node} {
			if got := impl.SeenOf(v, node); got != 0 {
				t.Errorf("SeenOf of %d elements, %v, and %d: got %d", len(v), v[0], node, got)
			}
		}
	}
}

func TestSeenHas(t *testing.T) {
	for _, c := range someCounts() {
		v := c.marks()
		for _, dot := range someDots() {
			if got := impl.SeenHas(v, dot); got != c.has(dot) {
				t.Errorf("SeenHas(%v, %v): got %v", v, dot, got)
			}
		}
	}
	for _, v := range wrongSeen() {
		for _, dot := range append(someDots(), v[0], v[len(v)-1]) {
			if impl.SeenHas(v, dot) {
				t.Errorf("SeenHas of %d elements, %v, and %v is true", len(v), v[0], dot)
			}
		}
	}
}

// Promise 3.

func TestJoinHasWhatEitherHas(t *testing.T) {
	dots := someDots()
	for _, a := range someCounts() {
		for _, b := range someCounts() {
			var both counts
			for node := range both {
				both[node] = max(a[node], b[node])
			}
			v := impl.SeenJoin(a.marks(), b.marks())
			wantSeen(t, "SeenJoin", v, both.marks())
			for _, dot := range dots {
				if impl.SeenHas(v, dot) != (a.has(dot) || b.has(dot)) {
					t.Fatalf("the join of %v and %v is %v: %v", a.marks(), b.marks(), v, dot)
				}
			}
		}
	}
}

func TestSeenJoinOfInvalid(t *testing.T) {
	right := counts{0, 1, 2, 0, 0, 3}.marks()
	for _, v := range wrongSeen() {
		for _, other := range [][]impl.Mark{nil, right, v} {
			if got := impl.SeenJoin(v, other); len(got) != 0 {
				t.Errorf("SeenJoin of %d elements, %v, and %v: got %v", len(v), v[0], other, got)
			}
			if got := impl.SeenJoin(other, v); len(got) != 0 {
				t.Errorf("SeenJoin of %v and %d elements, %v: got %v", other, len(v), v[0], got)
			}
		}
	}
}

func TestSeenLess(t *testing.T) {
	for _, a := range someCounts() {
		for _, b := range someCounts() {
			want := true
			for node := range a {
				want = want && a[node] <= b[node]
			}
			if got := impl.SeenLess(a.marks(), b.marks()); got != want {
				t.Errorf("SeenLess(%v, %v): got %v", a.marks(), b.marks(), got)
			}
		}
	}
	right := counts{0, 1, 2, 0, 0, 3}.marks()
	most := counts{0, impl.MaxTime, impl.MaxTime, impl.MaxTime, impl.MaxTime, impl.MaxTime}.marks()
	for _, v := range wrongSeen() {
		for _, other := range [][]impl.Mark{nil, right, most, v} {
			if impl.SeenLess(v, other) || impl.SeenLess(other, v) {
				t.Errorf("SeenLess of %d elements, %v, and %v is true", len(v), v[0], other)
			}
		}
	}
}

func TestPutDotsAreContained(t *testing.T) {
	dots := someDots()
	for _, c := range someCounts() {
		for _, dot := range dots {
			got := impl.SeenPut(c.marks(), dot)
			if !isDot(dot) {
				wantSeenOut(t, "SeenPut of an invalid dot", got, impl.SeenOut{Code: impl.ErrForm})
				continue
			}
			more := c
			more[dot.Node] = max(c[dot.Node], dot.N)
			wantSeenOut(t, "SeenPut", got, impl.SeenOut{Seen: more.marks()})
			if !impl.SeenHas(got.Seen, dot) {
				t.Errorf("SeenPut(%v, %v): got %v", c.marks(), dot, got.Seen)
			}
		}
	}
}

func TestSeenPutErrors(t *testing.T) {
	dots := append(someDots(), impl.Mark{Node: 2, N: 1})
	for _, v := range notSeen() {
		for _, dot := range dots {
			wantSeenOut(t, "SeenPut of an invalid list", impl.SeenPut(v, dot), impl.SeenOut{Code: impl.ErrForm})
		}
	}
	for _, v := range tooLong() {
		for _, dot := range dots {
			wantSeenOut(t, "SeenPut of a long list", impl.SeenPut(v, dot), impl.SeenOut{Code: impl.ErrSize})
		}
	}
}

func TestSeenIsNewMemory(t *testing.T) {
	c := counts{0, 3, 0, 4, 0, 5}
	for name, join := range map[string]func(v []impl.Mark) []impl.Mark{
		"join with nothing":   func(v []impl.Mark) []impl.Mark { return impl.SeenJoin(v, nil) },
		"nothing joined with": func(v []impl.Mark) []impl.Mark { return impl.SeenJoin(nil, v) },
		"join with itself":    func(v []impl.Mark) []impl.Mark { return impl.SeenJoin(v, v) },
		"put what it has":     func(v []impl.Mark) []impl.Mark { return impl.SeenPut(v, impl.Mark{Node: 3, N: 1}).Seen },
		"put what it has not": func(v []impl.Mark) []impl.Mark { return impl.SeenPut(v, impl.Mark{Node: 5, N: 9}).Seen },
	} {
		// With room behind it an append to the argument would not move it.
		v := append(make([]impl.Mark, 0, 9), c.marks()...)
		got := join(v)
		wantSeen(t, name+": argument", v, c.marks())
		for i := range got {
			got[i] = impl.Mark{Node: 9, N: 9}
		}
		wantSeen(t, name+": argument after a change of the result", v, c.marks())
		wantSeen(t, name+": behind the argument", v[3:9], make([]impl.Mark, 6))
	}
}

// seenText encodes with another implementation of the integers.
func seenText(v []impl.Mark) string {
	b := binary.AppendVarint(nil, int64(len(v)))
	for _, m := range v {
		b = binary.AppendVarint(binary.AppendVarint(b, m.Node), m.N)
	}
	return string(b)
}

func TestSeenBytes(t *testing.T) {
	if got := impl.SeenBytes(nil); got != "\x00" {
		t.Errorf("SeenBytes of nothing: got %q", got)
	}
	if got := impl.SeenBytes([]impl.Mark{{Node: 1, N: 2}, {Node: 3, N: 1}}); got != "\x04\x02\x04\x06\x02" {
		t.Errorf("SeenBytes: got %q", got)
	}
	for _, c := range someCounts() {
		if got, want := impl.SeenBytes(c.marks()), seenText(c.marks()); got != want {
			t.Errorf("SeenBytes(%v): got %q, want %q", c.marks(), got, want)
		}
	}
	for _, v := range wrongSeen() {
		if got := impl.SeenBytes(v); got != "" {
			t.Errorf("SeenBytes of %d elements, %v: got %s", len(v), v[0], shown(got))
		}
	}
}

func TestSeenIsDecoded(t *testing.T) {
	for _, c := range someCounts() {
		text := seenText(c.marks())
		wantSeenOut(t, "SeenRead", impl.SeenRead(text), impl.SeenOut{Seen: c.marks()})
		bad := impl.SeenOut{Code: impl.ErrSyntax}
		for cut := range len(text) {
			wantSeenOut(t, "SeenRead of a part", impl.SeenRead(text[:cut]), bad)
		}
		for _, more := range []string{"\x00", "\x02", "\x80", "\x02\x02", text} {
			wantSeenOut(t, "SeenRead with more behind", impl.SeenRead(text+more), bad)
		}
	}
}

func TestSeenReadErrors(t *testing.T) {
	for _, text := range []string{
		"", "x", "\x80", "\x80\x00", "\x82\x00\x02\x02", "\x02\x82\x00\x02", "\x02\x02\x82\x00",
		"\x01", "\x01\x02\x02", "\x03", "\x0c", "\x0e\x02\x02", "\xff\xff\xff\xff\xff\xff\xff\xff\xff\x01",
		"\xfe\xff\xff\xff\xff\xff\xff\xff\xff\x01", "\x80\x80\x80\x80\x80\x80\x80\x80\x80\x02",
		impl.PutNum(impl.MaxList), impl.PutNum(1 << 40), impl.PutNum(1<<32 + 1),
		seenText(nil) + "\x00", "\x02\x02", "\x02\x02\x80", "\x04\x02\x02", "\x04\x02\x02\x04",
		strings.Repeat("\x00", impl.MaxBytes), strings.Repeat("\x02", impl.MaxBytes),
		seenText(counts{0, 1}.marks()) + strings.Repeat("\x02", impl.MaxBytes-3),
	} {
		wantSeenOut(t, "SeenRead of "+shown(text), impl.SeenRead(text), impl.SeenOut{Code: impl.ErrSyntax})
	}
	for _, v := range notSeen() {
		wantSeenOut(t, "SeenRead of an invalid list", impl.SeenRead(seenText(v)), impl.SeenOut{Code: impl.ErrSyntax})
	}
	for _, text := range []string{
		strings.Repeat("\x00", impl.MaxBytes+1), strings.Repeat("\x80", 2*impl.MaxBytes),
		seenText(counts{0, 1}.marks()) + strings.Repeat("\x02", impl.MaxBytes-2),
	} {
		wantSeenOut(t, "SeenRead of "+shown(text), impl.SeenRead(text), impl.SeenOut{Code: impl.ErrSize})
	}
}

// TestSeenReadOfAnyBytes tries short strings, of three bytes those with some of the first ones only: the encodings among them are of an empty version vector and of one mark.
func TestSeenReadOfAnyBytes(t *testing.T) {
	right := map[string]bool{"\x00": true}
	for node := int64(1); node <= impl.MaxNodes; node++ {
		for n := int64(1); n < 64; n++ {
			right[seenText([]impl.Mark{{Node: node, N: n}})] = true
		}
	}
	try := func(text string) {
		got := impl.SeenRead(text)
		if right[text] && (got.Code != impl.OK || seenText(got.Seen) != text) ||
			!right[text] && (got.Code != impl.ErrSyntax || len(got.Seen) != 0) {
			t.Fatalf("SeenRead(%q): got %v", text, got)
		}
	}
	for a := range 256 {
		try(string([]byte{byte(a)}))
		for b := range 256 {
			try(string([]byte{byte(a), byte(b)}))
			for c := range 256 {
				if a < 16 || a > 125 && a < 132 {
					try(string([]byte{byte(a), byte(b), byte(c)}))
				}
			}
		}
	}
}
