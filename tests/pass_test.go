package tests

import (
	"encoding/binary"
	"math"
	"slices"
	"strings"
	"testing"

	"loop.example/g00659/impl"
)

// passParts encodes with another implementation of the integers, each number a part of its own; key and version vector may be invalid.
func passParts(key string, seen []impl.Mark) []string {
	parts := []string{numText(int64(len(key))), key, numText(int64(len(seen)))}
	for _, m := range seen {
		parts = append(parts, numText(m.Node), numText(m.N))
	}
	return parts
}

func passBody(key string, seen []impl.Mark) string {
	return strings.Join(passParts(key, seen), "")
}

func passText(key string, seen []impl.Mark) string {
	return sealText(passBody(key, seen))
}

// numsOf decodes leniently: also numbers of more bytes than necessary, and as many as there are.
func numsOf(text string) []int64 {
	var l []int64
	for len(text) > 0 {
		n, size := binary.Varint([]byte(text))
		if size <= 0 {
			return nil
		}
		l = append(l, n)
		text = text[size:]
	}
	return l
}

// bodyModel returns the key and the version vector of what is sealed in a context, and false if it is none: what was decoded leniently must have that very encoding.
func bodyModel(body string) (string, []impl.Mark, bool) {
	size, start := binary.Varint([]byte(body))
	if start <= 0 || size < 0 || size > int64(len(body)-start) {
		return "", nil, false
	}
	key, c := body[start:start+int(size)], counts{}
	nums := numsOf(body[start+int(size):])
	for i := 1; i+1 < len(nums); i += 2 {
		if !isDot(impl.Mark{Node: nums[i], N: nums[i+1]}) {
			return "", nil, false
		}
		c[nums[i]] = nums[i+1]
	}
	return key, c.marks(), namePattern.MatchString(key) && passBody(key, c.marks()) == body
}

// passModel reads as the document says it.
func passModel(key string, text string) impl.SeenOut {
	switch {
	case len(key) > 8000 || len(text) > 8000:
		return impl.SeenOut{Code: impl.ErrSize}
	case !namePattern.MatchString(key):
		return impl.SeenOut{Code: impl.ErrForm}
	case text == "":
		return impl.SeenOut{}
	case len(text) < 4:
		return impl.SeenOut{Code: impl.ErrShort}
	case sealText(text[:len(text)-4]) != text:
		return impl.SeenOut{Code: impl.ErrSum}
	}
	found, seen, right := bodyModel(text[:len(text)-4])
	if !right {
		return impl.SeenOut{Code: impl.ErrSyntax}
	}
	if found != key {
		return impl.SeenOut{Code: impl.ErrNone}
	}
	return impl.SeenOut{Seen: seen}
}

func wantPass(t *testing.T, what string, key string, text string, want impl.SeenOut) {
	t.Helper()
	wantSeenOut(t, what+": PassRead of "+shown(key)+" and "+shown(text), impl.PassRead(key, text), want)
	wantSeenOut(t, what+": model of "+shown(key)+" and "+shown(text), passModel(key, text), want)
}

func wantNoPass(t *testing.T, what string, key string, text string, code int64) {
	t.Helper()
	wantPass(t, what, key, text, impl.SeenOut{Code: code})
}

// longestSeen has the longest encoding.
func longestSeen() []impl.Mark {
	return counts{0, impl.MaxTime, impl.MaxTime, impl.MaxTime, impl.MaxTime, impl.MaxTime}.marks()
}

// passKeys has names of all lengths, and such that begin another one.
func passKeys() []string {
	l := append(someKeys(), "y", "ab", "b", "cart_", "car", "cart2", "a_", "a0")
	for size := 1; size <= 20; size++ {
		l = append(l, strings.Repeat("k", size))
	}
	return l
}

// samplePass has contexts of different lengths, by their keys.
func samplePass() map[string][]impl.Mark {
	return map[string][]impl.Mark{
		"x": {{Node: 1, N: 2}}, "y": nil, "cart": {{Node: 2, N: 64}, {Node: 5, N: 1}},
		"abcdefghij0123456789": longestSeen(), "a_9": {{Node: 5, N: impl.MaxTime}},
	}
}

func TestPassExample(t *testing.T) {
	seen := []impl.Mark{{Node: 1, N: 2}}
	text := sealText("\x02\x78\x02\x02\x04")
	if got := impl.PassOf("x", seen); got != text {
		t.Errorf("PassOf: got %q, want %q", got, text)
	}
	wantPass(t, "example", "x", text, impl.SeenOut{Seen: seen})
	wantNoPass(t, "example", "y", text, impl.ErrNone)
	wantPass(t, "empty text", "x", "", impl.SeenOut{})
}

// Promise 14.

func TestContextsYieldTheirSeen(t *testing.T) {
	for _, key := range passKeys() {
		for _, c := range append(someCounts(), counts{}) {
			text := impl.PassOf(key, c.marks())
			if want := passText(key, c.marks()); text != want {
				t.Fatalf("PassOf(%q, %v): got %q, want %q", key, c.marks(), text, want)
			}
			wantPass(t, "context", key, text, impl.SeenOut{Seen: c.marks()})
		}
	}
	empty := impl.PassOf("x", []impl.Mark{})
	if empty == "" || empty != impl.PassOf("x", nil) {
		t.Errorf("PassOf of an empty version vector: got %q", empty)
	}
}

func TestContextsOfOtherKeysAreRejected(t *testing.T) {
	for _, key := range passKeys() {
		for _, other := range passKeys() {
			if other == key {
				continue
			}
			for _, seen := range [][]impl.Mark{nil, {{Node: 1, N: 2}}, longestSeen()} {
				wantNoPass(t, "another key", other, impl.PassOf(key, seen), impl.ErrNone)
			}
		}
	}
}

func TestChangedContextsAreRejected(t *testing.T) {
	for key, seen := range samplePass() {
		text := impl.PassOf(key, seen)
		for i := range text {
			for change := 1; change < 256; change++ {
				b := []byte(text)
				b[i] ^= byte(change)
				wantNoPass(t, "one byte changed", key, string(b), impl.ErrSum)
				wantNoPass(t, "one byte changed, another key", "other", string(b), impl.ErrSum)
			}
		}
	}
	for i, c := range someCounts() {
		for _, key := range someKeys() {
			b := []byte(impl.PassOf(key, c.marks()))
			b[i%len(b)] ^= byte(1 + i%255)
			wantNoPass(t, "one byte changed", key, string(b), impl.ErrSum)
		}
	}
}

func TestCutContextsAreRejected(t *testing.T) {
	for key, seen := range samplePass() {
		text, body := passText(key, seen), passBody(key, seen)
		for cut := 1; cut < len(text); cut++ {
			want := int64(impl.ErrSum)
			if cut < 4 {
				want = impl.ErrShort
			}
			wantNoPass(t, "cut short", key, text[:cut], want)
			wantNoPass(t, "cut short, another key", "other", text[:cut], want)
		}
		for cut := range len(body) {
			wantNoPass(t, "cut short and sealed", key, sealText(body[:cut]), impl.ErrSyntax)
			wantNoPass(t, "cut short and sealed, another key", "other", sealText(body[:cut]), impl.ErrSyntax)
			wantNoPass(t, "cut at its beginning and sealed", key, sealText(body[cut+1:]), impl.ErrSyntax)
		}
		for _, more := range []string{"\x00", "\x02", "\x80", "\x02\x02", "\n", body} {
			wantNoPass(t, "more behind", key, text+more, impl.ErrSum)
			wantNoPass(t, "more behind, sealed", key, sealText(body+more), impl.ErrSyntax)
			wantNoPass(t, "more behind, sealed, another key", "other", sealText(body+more), impl.ErrSyntax)
		}
		wantNoPass(t, "more before", key, sealText("\x00"+body), impl.ErrSyntax)
		wantNoPass(t, "sealed twice", key, sealText(text), impl.ErrSyntax)
		wantNoPass(t, "not sealed", key, body+"abcd", impl.ErrSum)
	}
}

func TestPassOfKeys(t *testing.T) {
	for _, key := range []string{"a", "z", "a_", "a9", strings.Repeat("k", 19), strings.Repeat("k", 20)} {
		if got := impl.PassOf(key, longestSeen()); got != passText(key, longestSeen()) {
			t.Errorf("PassOf(%q): got %q", key, got)
		}
	}
	for _, key := range append(notKeys(), notNames()...) {
		for _, seen := range append(wrongSeen()[:10], nil, longestSeen(), repeated(impl.Mark{}, impl.MaxList+1)) {
			if got := impl.PassOf(key, seen); got != "" {
				t.Errorf("PassOf(%s): got %s", shown(key), shown(got))
			}
		}
	}
}

func TestPassOfInvalidSeen(t *testing.T) {
	for _, seen := range wrongSeen() {
		for _, key := range []string{"x", strings.Repeat("k", 20)} {
			if got := impl.PassOf(key, seen); got != "" {
				t.Errorf("PassOf of %d elements, %v: got %s", len(seen), seen[0], shown(got))
			}
		}
	}
}

// TestPassReadKeys has errors of the key, which come before those of the text but for its size.
func TestPassReadKeys(t *testing.T) {
	texts := []string{"", "\x00", "abc", "abcd", sealText("zz"), passText("x", nil), passText("x", longestSeen()) + "x",
		strings.Repeat("a", impl.MaxBytes), sealText(someText(impl.MaxBytes - 4))}
	for _, key := range append(notKeys(), notNames()...) {
		want := int64(impl.ErrForm)
		if len(key) > impl.MaxBytes {
			want = impl.ErrSize
		}
		for _, text := range append(texts, passText(key[:min(len(key), 60)], nil)) {
			wantNoPass(t, "no name", key, text, want)
		}
		for _, text := range []string{strings.Repeat("a", impl.MaxBytes+1), sealText(someText(impl.MaxBytes - 3))} {
			wantNoPass(t, "no name and a long text", key, text, impl.ErrSize)
		}
	}
	for _, key := range passKeys() {
		wantPass(t, "empty text", key, "", impl.SeenOut{})
	}
}

func TestPassReadSizes(t *testing.T) {
	for _, key := range []string{"x", strings.Repeat("k", 20)} {
		for _, text := range []string{strings.Repeat("a", impl.MaxBytes), someText(impl.MaxBytes)} {
			wantNoPass(t, "long", key, text, impl.ErrSum)
		}
		for _, body := range []string{strings.Repeat("\x00", impl.MaxBytes-4), someText(impl.MaxBytes - 4),
			passBody(key, longestSeen()) + strings.Repeat("\x00", impl.MaxBytes-4-len(passBody(key, longestSeen())))} {
			wantNoPass(t, "long and sealed", key, sealText(body), impl.ErrSyntax)
			wantNoPass(t, "too long and sealed", key, sealText(body+"\x00"), impl.ErrSize)
		}
		for _, text := range []string{strings.Repeat("a", impl.MaxBytes+1), someText(3 * impl.MaxBytes),
			passText(key, nil) + strings.Repeat("\x00", impl.MaxBytes)} {
			wantNoPass(t, "too long", key, text, impl.ErrSize)
		}
	}
}

func TestPassReadSyntax(t *testing.T) {
	for _, body := range []string{"", "\x00", "zz", "\x80", "\x02", "\x02x", "\x02x\x02", "\x02x\x02\x02", "\x01x\x00", "\x03x\x00",
		"\x04x\x00", "\x02x\x01", "\x02x\x80", "\x02x\x03", "\x02x\x0c", "\x02x\x00\x00", "\x02x\x04\x02\x04", "\x82\x00x\x00",
		"\x02x\x80\x00", "\x02x" + numText(impl.MaxList), "\x02x" + numText(math.MaxInt64), "\x02x" + numText(math.MinInt64),
		numText(-1) + "x\x00", numText(impl.MaxBytes+1) + "x\x00", numText(math.MaxInt64) + "x\x00", numText(math.MinInt64) + "x\x00",
		"\x02x\x00\x02x\x00", "x\x00", lengthText("x\x00"), seenText(longestSeen()), lengthText("x") + lengthText("\x00"),
		lengthText(strings.Repeat("k", 7000)) + "\x00"} {
		for _, key := range []string{"x", "y", "a_9"} {
			wantNoPass(t, "no context", key, sealText(body), impl.ErrSyntax)
		}
	}
	for _, wrong := range append(notKeys(), notNames()...) {
		text, want := passText(wrong, []impl.Mark{{Node: 1, N: 2}}), int64(impl.ErrSyntax)
		if len(text) > impl.MaxBytes {
			want = impl.ErrSize
		}
		wantNoPass(t, "context of no name", "x", text, want)
		wantNoPass(t, "context of no name", strings.Repeat("k", 20), text, want)
	}
	for _, seen := range wrongSeen() {
		for _, key := range []string{"x", "y"} {
			wantNoPass(t, "context of no version vector", key, passText("x", seen), impl.ErrSyntax)
		}
	}
}

func TestLongerNumbersOfContextsAreRejected(t *testing.T) {
	for key, seen := range samplePass() {
		for i := range passParts(key, seen) {
			if i == 1 {
				continue
			}
			parts := passParts(key, seen)
			last := len(parts[i]) - 1
			parts[i] = parts[i][:last] + string([]byte{parts[i][last] | 128, 0})
			text := sealText(strings.Join(parts, ""))
			wantNoPass(t, "a longer number", key, text, impl.ErrSyntax)
			wantNoPass(t, "a longer number, another key", "other", text, impl.ErrSyntax)
		}
	}
}

// TestPassReadErrorOrder has texts with several errors, from the last one to be found to the first.
func TestPassReadErrorOrder(t *testing.T) {
	long, tooLong := strings.Repeat("k", impl.MaxBytes), strings.Repeat("k", impl.MaxBytes+1)
	context := passText("x", []impl.Mark{{Node: 1, N: 2}})
	syntax := sealText(passBody("x", []impl.Mark{{Node: 1, N: 2}}) + "\x00")
	for _, c := range []struct {
		key  string
		text string
		code int64
	}{
		{"x", context, impl.OK}, {"y", context, impl.ErrNone}, {"x", syntax, impl.ErrSyntax}, {"y", syntax, impl.ErrSyntax},
		{"y", syntax + "x", impl.ErrSum}, {"y", syntax[:3], impl.ErrShort}, {"X", syntax[:3], impl.ErrForm}, {"X", syntax, impl.ErrForm},
		{"X", context, impl.ErrForm}, {"X", "", impl.ErrForm}, {"", "", impl.ErrForm}, {"", context, impl.ErrForm}, {long, context, impl.ErrForm},
		{long, long, impl.ErrForm}, {"X", tooLong, impl.ErrSize}, {"x", tooLong, impl.ErrSize}, {tooLong, "", impl.ErrSize},
		{tooLong, context, impl.ErrSize}, {tooLong, "abc", impl.ErrSize}, {tooLong, tooLong, impl.ErrSize},
	} {
		want := impl.SeenOut{Code: c.code}
		if c.code == impl.OK {
			want.Seen = []impl.Mark{{Node: 1, N: 2}}
		}
		wantPass(t, "order of errors", c.key, c.text, want)
	}
}

// TestPassReadOfAnyBytes changes encodings and seals them again.
func TestPassReadOfAnyBytes(t *testing.T) {
	codes := map[int64]int{}
	for key, seen := range samplePass() {
		body := passBody(key, seen)
		for i := range body {
			for change := 1; change < 256; change++ {
				b := []byte(body)
				b[i] ^= byte(change)
				text := sealText(string(b))
				got := impl.PassRead(key, text)
				wantSeenOut(t, "PassRead of "+shown(text), got, passModel(key, text))
				codes[got.Code]++
			}
		}
	}
	if len(codes) != 3 || codes[impl.OK] == 0 || codes[impl.ErrSyntax] == 0 || codes[impl.ErrNone] == 0 {
		t.Errorf("codes: %v", codes)
	}
}

func TestContextsAreNewMemory(t *testing.T) {
	want := counts{0, 0, 2, 0, 7}.marks()
	// With room behind it an append to the argument would not move it.
	seen := append(make([]impl.Mark, 0, 9), want...)
	text := impl.PassOf("x", seen)
	wantSeen(t, "argument", seen, want)
	wantSeen(t, "behind the argument", seen[2:9], make([]impl.Mark, 7))
	first, second := impl.PassRead("x", text), impl.PassRead("x", text)
	for i := range first.Seen {
		first.Seen[i] = impl.Mark{Node: 9, N: 9}
	}
	wantSeenOut(t, "read twice", second, impl.SeenOut{Seen: want})
	if !slices.Equal(seen, want) || impl.PassOf("x", seen) != text {
		t.Errorf("argument after a change of the result: %v", seen)
	}
}
