package tests

import (
	"bytes"
	"encoding/binary"
	"hash/crc32"
	"math"
	"math/rand"
	"strings"
	"testing"

	"loop.example/g00659/impl"
)

// someNums has the limits, the numbers around each change of length, and others of every size.
func someNums() []int64 {
	l := []int64{0, math.MinInt64, math.MaxInt64}
	for bit := range 63 {
		p := int64(1) << bit
		l = append(l, p-1, p, p+1, -p-1, -p, -p+1)
	}
	r := rand.New(rand.NewSource(1))
	for range 2000 {
		l = append(l, int64(r.Uint64())>>r.Intn(64))
	}
	return l
}

// someText has bytes of every value, the same ones for the same size.
func someText(size int) string {
	b := make([]byte, size)
	rand.New(rand.NewSource(int64(size))).Read(b)
	return string(b)
}

func wantNum(t *testing.T, text string, at int64, want impl.NumOut) {
	t.Helper()
	if got := impl.GetNum(text, at); got != want {
		t.Errorf("GetNum(%s, %d): got %+v, want %+v", shown(text), at, got, want)
	}
}

func wantText(t *testing.T, text string, at int64, want impl.TextOut) {
	t.Helper()
	if got := impl.GetText(text, at); got != want {
		t.Errorf("GetText(%s, %d): got %d bytes, At %d, Code %d, want %d bytes, At %d, Code %d",
			shown(text), at, len(got.Text), got.At, got.Code, len(want.Text), want.At, want.Code)
	}
}

func wantUnsealed(t *testing.T, text string, want impl.TextOut) {
	t.Helper()
	if got := impl.Unseal(text); got != want {
		t.Errorf("Unseal(%s): got %d bytes, At %d, Code %d, want %d bytes, At %d, Code %d",
			shown(text), len(got.Text), got.At, got.Code, len(want.Text), want.At, want.Code)
	}
}

func TestConstants(t *testing.T) {
	got := []int{impl.OK, impl.ErrForm, impl.ErrSize, impl.ErrSyntax, impl.ErrShort, impl.ErrSum, impl.ErrNone,
		impl.ErrThere, impl.ErrRange, impl.ErrFull, impl.ErrState, impl.ErrDown, impl.ErrFew}
	for want, code := range got {
		if code != want {
			t.Errorf("code %d is %d", want, code)
		}
	}
	if impl.MaxBytes != 8000 || impl.MaxList != 400 || impl.MaxTime != 1000000 {
		t.Errorf("limits: %d, %d, %d", impl.MaxBytes, impl.MaxList, impl.MaxTime)
	}
}

// Promise 1.

func TestPutNumExamples(t *testing.T) {
	ff := strings.Repeat("\xff", 9)
	for _, c := range []struct {
		n    int64
		want string
	}{
		{0, "\x00"}, {-1, "\x01"}, {1, "\x02"}, {63, "\x7e"}, {-64, "\x7f"},
		{64, "\x80\x01"}, {-65, "\x81\x01"}, {8191, "\xfe\x7f"}, {-8192, "\xff\x7f"}, {8192, "\x80\x80\x01"},
		{math.MaxInt64, "\xfe" + ff[1:] + "\x01"}, {math.MinInt64, ff + "\x01"},
	} {
		if got := impl.PutNum(c.n); got != c.want {
			t.Errorf("PutNum(%d): got %x, want %x", c.n, got, c.want)
		}
	}
}

func TestNumsAreDecoded(t *testing.T) {
	for _, n := range someNums() {
		e := impl.PutNum(n)
		if want := string(binary.AppendVarint(nil, n)); e != want {
			t.Fatalf("PutNum(%d): got %x, want %x", n, e, want)
		}
		size := int64(len(e))
		wantNum(t, e, 0, impl.NumOut{N: n, At: size})
		wantNum(t, "\x80\xff"+e+"\x80", 2, impl.NumOut{N: n, At: 2 + size})
		for cut := range e {
			wantNum(t, e[:cut], 0, impl.NumOut{Code: impl.ErrShort})
		}
	}
}

func TestGetNumErrors(t *testing.T) {
	nine := strings.Repeat("\x80", 9)
	for _, c := range []struct {
		text string
		at   int64
		code int64
	}{
		{"\x00", -1, impl.ErrForm}, {"\x00", math.MinInt64, impl.ErrForm}, {"", -1, impl.ErrForm},
		{"\x80\x00", -1, impl.ErrForm},
		{"", 0, impl.ErrShort}, {"", 1, impl.ErrShort}, {"\x00", 1, impl.ErrShort}, {"\x00", 2, impl.ErrShort},
		{"\x00", math.MaxInt64, impl.ErrShort}, {"\x80", 0, impl.ErrShort}, {"\x00\x80", 1, impl.ErrShort},
		{nine, 0, impl.ErrShort}, {nine[:8], 0, impl.ErrShort},
		{"\x80\x00", 0, impl.ErrSyntax}, {"\xff\x00", 0, impl.ErrSyntax}, {"\x80\x80\x00", 0, impl.ErrSyntax},
		{nine[:8] + "\x00", 0, impl.ErrSyntax}, {nine + "\x00", 0, impl.ErrSyntax},
		{nine + "\x02", 0, impl.ErrSyntax}, {nine + "\x7f", 0, impl.ErrSyntax},
		// The tenth byte is wrong before the string is too short for an eleventh one.
		{nine + "\x80", 0, impl.ErrSyntax}, {nine + "\x81", 0, impl.ErrSyntax}, {nine + "\xff", 0, impl.ErrSyntax},
		{nine + "\x80\x01", 0, impl.ErrSyntax},
	} {
		wantNum(t, c.text, c.at, impl.NumOut{Code: c.code})
	}
	wantNum(t, nine+"\x01", 0, impl.NumOut{N: 1 << 62, At: 10})
	wantNum(t, nine[:8]+"\x02", 0, impl.NumOut{N: 1 << 56, At: 9})
	wantNum(t, "\x80\x00", 1, impl.NumOut{At: 2})
}

func TestGetNumSize(t *testing.T) {
	full := strings.Repeat("\x02", impl.MaxBytes)
	wantNum(t, full, impl.MaxBytes-1, impl.NumOut{N: 1, At: impl.MaxBytes})
	wantNum(t, full, impl.MaxBytes, impl.NumOut{Code: impl.ErrShort})
	wantNum(t, full, -1, impl.NumOut{Code: impl.ErrForm})
	for _, at := range []int64{0, -1, impl.MaxBytes, impl.MaxBytes + 1, math.MaxInt64} {
		wantNum(t, full+"\x02", at, impl.NumOut{Code: impl.ErrSize})
	}
}

// numOf decodes as the document says it, byte by byte.
func numOf(text string) impl.NumOut {
	var u uint64
	for i := 0; ; i++ {
		if i >= len(text) {
			return impl.NumOut{Code: impl.ErrShort}
		}
		if i == 9 && text[i] > 1 {
			return impl.NumOut{Code: impl.ErrSyntax}
		}
		u += uint64(text[i]%128) << (7 * i)
		if text[i] < 128 && text[i] == 0 && i > 0 {
			return impl.NumOut{Code: impl.ErrSyntax}
		}
		if text[i] < 128 && u%2 == 0 {
			return impl.NumOut{N: int64(u / 2), At: int64(i + 1)}
		}
		if text[i] < 128 {
			return impl.NumOut{N: -int64(u/2) - 1, At: int64(i + 1)}
		}
	}
}

func TestGetNumOfAnyBytes(t *testing.T) {
	for a := range 256 {
		wantNum(t, string([]byte{byte(a)}), 0, numOf(string([]byte{byte(a)})))
		for b := range 256 {
			text := string([]byte{byte(a), byte(b)})
			wantNum(t, text, 0, numOf(text))
		}
	}
	r := rand.New(rand.NewSource(2))
	for range 50000 {
		b := make([]byte, r.Intn(13))
		for i := range b {
			b[i] = byte(128 + r.Intn(128))
		}
		if len(b) > 0 {
			b[len(b)-1] = byte(r.Intn(4))
		}
		got := impl.GetNum(string(b), 0)
		if want := numOf(string(b)); got != want {
			t.Fatalf("GetNum(%x, 0): got %+v, want %+v", b, got, want)
		}
		if got.Code == impl.OK && impl.PutNum(got.N) != string(b[:got.At]) {
			t.Fatalf("%x is not the encoding of %d", b, got.N)
		}
	}
}

func TestPutText(t *testing.T) {
	for _, size := range []int{0, 1, 2, 63, 64, 65, 8000 - 2, 8000 - 1, 8000} {
		text := someText(size)
		want := string(binary.AppendVarint(nil, int64(size))) + text
		if got := impl.PutText(text); got != want {
			t.Errorf("PutText of %d bytes: got %s, want %s", size, shown(got), shown(want))
		}
	}
	for _, size := range []int{impl.MaxBytes + 1, 3 * impl.MaxBytes} {
		if got := impl.PutText(someText(size)); got != "" {
			t.Errorf("PutText of %d bytes: got %d bytes", size, len(got))
		}
	}
}

func TestTextsAreDecoded(t *testing.T) {
	wantText(t, "x\x04ab", 1, impl.TextOut{Text: "ab", At: 4})
	wantText(t, "\x00", 0, impl.TextOut{At: 1})
	wantText(t, "\x80\x00\x02a", 1, impl.TextOut{At: 2})
	for _, size := range []int{0, 1, 2, 19, 63, 64, 65, 100, 5000, 8000 - 3, 8000 - 2} {
		text := someText(size)
		e := impl.PutText(text)
		wantText(t, e, 0, impl.TextOut{Text: text, At: int64(len(e))})
	}
	for size := range 200 {
		text := someText(size)
		e := impl.PutText(text)
		wantText(t, "\xff\x80\x80"+e+"\x00", 3, impl.TextOut{Text: text, At: 3 + int64(len(e))})
		for cut := range len(e) {
			wantText(t, e[:cut], 0, impl.TextOut{Code: impl.ErrShort})
		}
	}
}

func TestGetTextErrors(t *testing.T) {
	nine := strings.Repeat("\x80", 9)
	for _, c := range []struct {
		text string
		at   int64
		code int64
	}{
		{"\x02a", -1, impl.ErrForm}, {"\x02a", math.MinInt64, impl.ErrForm}, {"", -1, impl.ErrForm},
		{"", 0, impl.ErrShort}, {"\x02a", 2, impl.ErrShort}, {"\x02a", 3, impl.ErrShort},
		{"\x02a", math.MaxInt64, impl.ErrShort}, {"\x80", 0, impl.ErrShort},
		{"\x02", 0, impl.ErrShort}, {"\x04a", 0, impl.ErrShort}, {"a\x04a", 1, impl.ErrShort},
		{impl.PutNum(impl.MaxBytes), 0, impl.ErrShort}, {impl.PutNum(impl.MaxBytes) + "a", 0, impl.ErrShort},
		{"\x80\x00", 0, impl.ErrSyntax}, {"\x82\x00a", 0, impl.ErrSyntax}, {nine + "\x02", 0, impl.ErrSyntax},
		{"\x01", 0, impl.ErrSyntax}, {"\x01a", 0, impl.ErrSyntax}, {"\x03ab", 0, impl.ErrSyntax},
		{impl.PutNum(impl.MaxBytes + 1), 0, impl.ErrSyntax}, {impl.PutNum(-impl.MaxBytes) + "a", 0, impl.ErrSyntax},
		{impl.PutNum(math.MaxInt64) + "a", 0, impl.ErrSyntax}, {impl.PutNum(math.MinInt64) + "a", 0, impl.ErrSyntax},
		{impl.PutNum(1<<32) + "a", 0, impl.ErrSyntax}, {impl.PutNum(1<<32+1) + "a", 0, impl.ErrSyntax},
	} {
		wantText(t, c.text, c.at, impl.TextOut{Code: c.code})
	}
}

func TestGetTextSize(t *testing.T) {
	for size := impl.MaxBytes - 1; size <= impl.MaxBytes; size++ {
		e := impl.PutText(someText(size))
		for _, at := range []int64{0, -1, int64(len(e)), math.MaxInt64} {
			wantText(t, e, at, impl.TextOut{Code: impl.ErrSize})
		}
		// Without what exceeds the size limit the string ends too early.
		wantText(t, e[:impl.MaxBytes], 0, impl.TextOut{Code: impl.ErrShort})
	}
	full := strings.Repeat("\x00", impl.MaxBytes)
	wantText(t, full, impl.MaxBytes-1, impl.TextOut{At: impl.MaxBytes})
	wantText(t, full, impl.MaxBytes, impl.TextOut{Code: impl.ErrShort})
	wantText(t, full, -1, impl.TextOut{Code: impl.ErrForm})
	wantText(t, full+"\x00", 0, impl.TextOut{Code: impl.ErrSize})
}

func TestNameRight(t *testing.T) {
	for _, c := range []struct {
		text string
		want bool
	}{
		{"a_9", true}, {"_a", false}, {"", false}, {"a", true}, {"z", true}, {"a_", true}, {"zz__09", true},
		{"9a", false}, {"aB", false}, {"A", false}, {"a b", false}, {"a-b", false}, {"a\x00", false}, {"\u00e4", false},
		{"abcdefghijklmnopqrst", true}, {"abcdefghijklmnopqrstu", false},
		{"uvwxyz0123456789____", true}, {"uvwxyz0123456789___ ", false},
		{strings.Repeat("a", impl.MaxBytes), false}, {strings.Repeat("a", impl.MaxBytes+1), false},
	} {
		if got := impl.NameRight(c.text); got != c.want {
			t.Errorf("NameRight(%s): got %v, want %v", shown(c.text), got, c.want)
		}
	}
	for i := range 256 {
		b := string([]byte{byte(i)})
		first := strings.Contains("abcdefghijklmnopqrstuvwxyz", b)
		later := first || strings.Contains("0123456789_", b)
		if impl.NameRight(b) != first || impl.NameRight(b+"a") != first {
			t.Errorf("NameRight: first byte %d", i)
		}
		if impl.NameRight("a"+b) != later || impl.NameRight("a"+b+"a") != later {
			t.Errorf("NameRight: later byte %d", i)
		}
	}
}

// Promise 2.

func TestCrc(t *testing.T) {
	if got := impl.Crc("123456789"); got != 3421780262 {
		t.Errorf("Crc of the digits: got %d", got)
	}
	if got := impl.Crc(""); got != 0 {
		t.Errorf("Crc of nothing: got %d", got)
	}
	for i := range 256 {
		wantCrc(t, string([]byte{byte(i)}))
	}
	for _, size := range []int{2, 3, 4, 5, 100, 8000 - 1, 8000} {
		wantCrc(t, someText(size))
		wantCrc(t, strings.Repeat("\x00", size))
		wantCrc(t, strings.Repeat("\xff", size))
	}
	for _, size := range []int{impl.MaxBytes + 1, 2 * impl.MaxBytes} {
		if got := impl.Crc(someText(size)); got != 0 {
			t.Errorf("Crc of %d bytes: got %d", size, got)
		}
	}
}

func wantCrc(t *testing.T, text string) {
	t.Helper()
	if got, want := impl.Crc(text), int64(crc32.ChecksumIEEE([]byte(text))); got != want {
		t.Errorf("Crc(%s): got %d, want %d", shown(text), got, want)
	}
}

func TestCrcIsContinued(t *testing.T) {
	text := someText(300)
	for cut := range len(text) + 1 {
		if got, want := impl.CrcMore(impl.Crc(text[:cut]), text[cut:]), impl.Crc(text); got != want {
			t.Errorf("CrcMore behind %d bytes: got %d, want %d", cut, got, want)
		}
	}
	crc := int64(0)
	for i := range len(text) {
		crc = impl.CrcMore(crc, text[i:i+1])
	}
	if crc != impl.Crc(text) {
		t.Errorf("CrcMore byte by byte: got %d, want %d", crc, impl.Crc(text))
	}
}

func TestCrcMoreLimits(t *testing.T) {
	const top = math.MaxUint32
	for _, crc := range []int64{0, 1, 3421780262, 1 << 31, top - 1, top} {
		if got := impl.CrcMore(crc, ""); got != crc {
			t.Errorf("CrcMore(%d) of nothing: got %d", crc, got)
		}
		for _, size := range []int{1, impl.MaxBytes} {
			text := someText(size)
			want := int64(crc32.Update(uint32(crc), crc32.IEEETable, []byte(text)))
			if got := impl.CrcMore(crc, text); got != want {
				t.Errorf("CrcMore(%d) of %d bytes: got %d, want %d", crc, size, got, want)
			}
		}
		if got := impl.CrcMore(crc, someText(impl.MaxBytes+1)); got != 0 {
			t.Errorf("CrcMore(%d) of too many bytes: got %d", crc, got)
		}
	}
	for _, crc := range []int64{-1, top + 1, top + 2, -top, math.MinInt64, math.MaxInt64} {
		for _, text := range []string{"", "a", "123456789", someText(impl.MaxBytes + 1)} {
			if got := impl.CrcMore(crc, text); got != 0 {
				t.Errorf("CrcMore(%d, %s): got %d", crc, shown(text), got)
			}
		}
	}
}

func TestSealedTextsAreRecovered(t *testing.T) {
	if got := impl.Seal("123456789"); got != "123456789\x26\x39\xf4\xcb" {
		t.Errorf("Seal of the digits: got %x", got)
	}
	for _, size := range []int{0, 1, 2, 3, 4, 5, 100, 8000 - 5, 8000 - 4} {
		text := someText(size)
		sealed := impl.Seal(text)
		sum := crc32.ChecksumIEEE([]byte(text))
		if want := string(binary.LittleEndian.AppendUint32([]byte(text), sum)); sealed != want {
			t.Errorf("Seal of %d bytes: got %s, want %s", size, shown(sealed), shown(want))
		}
		wantUnsealed(t, sealed, impl.TextOut{Text: text})
	}
	for _, size := range []int{8000 - 3, 8000 - 2, 8000, 8000 + 1, 16000} {
		if got := impl.Seal(someText(size)); got != "" {
			t.Errorf("Seal of %d bytes: got %d bytes", size, len(got))
		}
	}
}

func TestChangedSealsAreRejected(t *testing.T) {
	for _, text := range []string{"", "a", "ab", "\x00\x00\x00\x00", someText(30)} {
		sealed := []byte(impl.Seal(text))
		for i := range sealed {
			for change := 1; change < 256; change++ {
				b := bytes.Clone(sealed)
				b[i] ^= byte(change)
				wantUnsealed(t, string(b), impl.TextOut{Code: impl.ErrSum})
			}
		}
	}
	sealed := []byte(impl.Seal(someText(impl.MaxBytes - 4)))
	for _, i := range []int{0, 1, 4000, 7994, 7995, 7996, 7997, 7998, 7999} {
		b := bytes.Clone(sealed)
		b[i] ^= 64
		wantUnsealed(t, string(b), impl.TextOut{Code: impl.ErrSum})
	}
}

func TestUnsealErrors(t *testing.T) {
	for _, text := range []string{"", "a", "\x00", "ab", "abc", "\x00\x00\x00"} {
		wantUnsealed(t, text, impl.TextOut{Code: impl.ErrShort})
	}
	wantUnsealed(t, "\x00\x00\x00\x00", impl.TextOut{})
	for _, text := range []string{"abcd", "\xff\xff\xff\xff", "123456789\xcb\xf4\x39\x26", "123456789\xd9\xc6\x0b\x34",
		"12345678\x26\x39\xf4\xcb", "123456789\x26\x39\xf4\xcb\x00", "\x26\x39\xf4\xcb123456789"} {
		wantUnsealed(t, text, impl.TextOut{Code: impl.ErrSum})
	}
	wantUnsealed(t, strings.Repeat("a", impl.MaxBytes), impl.TextOut{Code: impl.ErrSum})
	wantUnsealed(t, strings.Repeat("a", impl.MaxBytes+1), impl.TextOut{Code: impl.ErrSize})
	text := someText(impl.MaxBytes - 3)
	sum := crc32.ChecksumIEEE([]byte(text))
	wantUnsealed(t, string(binary.LittleEndian.AppendUint32([]byte(text), sum)), impl.TextOut{Code: impl.ErrSize})
}
