package impl

import (
	"errors"
	"math"
	"strconv"
)

// Constants, see chapter 1.
const (
	OK        = 0
	ErrForm   = 1
	ErrSize   = 2
	ErrSyntax = 3
	ErrShort  = 4
	ErrSum    = 5
	ErrNone   = 6
	ErrThere  = 7
	ErrRange  = 8
	ErrFull   = 9
	ErrState  = 10
	ErrDown   = 11
	ErrFew    = 12
	MaxBytes  = 8000
	MaxList   = 400
	MaxTime   = 1000000
)

const (
	maxNumBytes  = 10
	maxNameBytes = 20
	sumBytes     = 4
	crcBits      = 0xEDB88320
)

// NumOut is a decoded integer and the offset behind it.
type NumOut struct {
	N    int64
	At   int64
	Code int64
}

// TextOut is a decoded string and the offset behind it.
type TextOut struct {
	Text string
	At   int64
	Code int64
}

// malformed is the error of an encoding that cannot be decoded; code is what
// the exported functions return for it.
type malformed struct {
	code int64
}

func (m malformed) Error() string {
	return "malformed encoding, code " + strconv.FormatInt(m.code, 10)
}

// codeOf relies on the decoders failing with malformed alone, so that any
// other err is nil.
func codeOf(err error) int64 {
	var bad malformed
	if errors.As(err, &bad) {
		return bad.code
	}
	return OK
}

// joined copies, so that the result shares no memory with the parts.
func joined(parts ...string) string {
	size := 0
	for _, p := range parts {
		size += len(p)
	}
	b := make([]byte, size)
	at := 0
	for _, p := range parts {
		at += copy(b[at:], p)
	}
	return string(b)
}

// PutNum: see chapter 2.
func PutNum(n int64) string {
	var b [maxNumBytes]byte
	u := zigzag(n)
	size := 0
	for u >= 128 {
		b[size] = byte(u) | 128
		u >>= 7
		size++
	}
	b[size] = byte(u)
	return string(b[:size+1])
}

// zigzag gives numbers near 0 of either sign a short encoding. The complement
// of n is -n - 1, so that nothing overflows for the smallest integer.
func zigzag(n int64) uint64 {
	if n >= 0 {
		return uint64(n) << 1
	}
	return uint64(^n)<<1 | 1
}

func unzigzag(u uint64) int64 {
	half := int64(u >> 1)
	if u&1 == 1 {
		return ^half
	}
	return half
}

// GetNum: see chapter 2.
func GetNum(text string, at int64) NumOut {
	if len(text) > MaxBytes {
		return NumOut{Code: ErrSize}
	}
	n, next, err := readNum(text, at)
	return NumOut{N: n, At: next, Code: codeOf(err)}
}

// readNum leaves the size limit, which is one of arguments, to its callers; its
// error is malformed.
func readNum(text string, at int64) (int64, int64, error) {
	var u uint64
	var b byte
	count := 0
	next := at
	code := int64(ErrSyntax)
	if at < 0 {
		code = ErrForm
		goto wrong
	}

more:
	if next >= int64(len(text)) {
		code = ErrShort
		goto wrong
	}
	b = text[next]
	next++
	count++
	// Of the 64 bits, the nine bytes before the tenth hold 63.
	if count == maxNumBytes && b > 1 {
		goto wrong
	}
	u |= uint64(b&127) << (7 * (count - 1))
	if b < 128 {
		goto last
	}
	goto more

last:
	if b == 0 && count > 1 {
		goto wrong
	}
	return unzigzag(u), next, nil

wrong:
	return 0, 0, malformed{code}
}

// PutText: see chapter 2.
func PutText(t string) string {
	if len(t) > MaxBytes {
		return ""
	}
	return joined(PutNum(int64(len(t))), t)
}

// GetText: see chapter 2.
func GetText(text string, at int64) TextOut {
	if len(text) > MaxBytes {
		return TextOut{Code: ErrSize}
	}
	t, next, err := readText(text, at)
	return TextOut{Text: t, At: next, Code: codeOf(err)}
}

// readText leaves the size limit to its callers, as readNum does.
func readText(text string, at int64) (string, int64, error) {
	size, start, err := readNum(text, at)
	if err != nil {
		return "", 0, err
	}
	if size < 0 || size > MaxBytes {
		return "", 0, malformed{ErrSyntax}
	}
	if size > int64(len(text))-start {
		return "", 0, malformed{ErrShort}
	}
	end := start + size
	return joined(text[start:end]), end, nil
}

// readList decodes a number of elements and the elements, which read decodes.
func readList[T any](text string, at int64, most int64, read func(string, int64) (T, int64, error)) ([]T, int64, error) {
	count, at, err := readNum(text, at)
	if err != nil {
		return nil, 0, err
	}
	if count < 0 || count > most {
		return nil, 0, malformed{ErrSyntax}
	}
	list := make([]T, count)
	for i := range list {
		list[i], at, err = read(text, at)
		if err != nil {
			return nil, 0, err
		}
	}
	return list, at, nil
}

// NameRight: see chapter 2.
func NameRight(t string) bool {
	if len(t) < 1 || len(t) > maxNameBytes || !isLetter(t[0]) {
		return false
	}
	for i := 1; i < len(t); i++ {
		if !isNameByte(t[i]) {
			return false
		}
	}
	return true
}

func isLetter(b byte) bool {
	return b >= 'a' && b <= 'z'
}

func isNameByte(b byte) bool {
	return isLetter(b) || b >= '0' && b <= '9' || b == '_'
}

// Crc: see chapter 2.
func Crc(text string) int64 {
	// The CRC of the empty string is 0, so that continuing it is starting.
	return CrcMore(0, text)
}

// CrcMore: see chapter 2.
func CrcMore(crc int64, text string) int64 {
	if len(text) > MaxBytes || crc < 0 || crc > math.MaxUint32 {
		return 0
	}
	return int64(^crcShift(^uint32(crc), text))
}

// crcShift moves the bits of text through the register.
func crcShift(register uint32, text string) uint32 {
	for i := 0; i < len(text); i++ {
		b := uint32(text[i])
		for bit := 0; bit < 8; bit++ {
			odd := (register ^ b>>bit) & 1
			register >>= 1
			if odd == 1 {
				register ^= crcBits
			}
		}
	}
	return register
}

// Seal: see chapter 2.
func Seal(text string) string {
	if len(text) > MaxBytes-sumBytes {
		return ""
	}
	return joined(text, sumOf(text))
}

// sumOf returns the CRC of a string in little-endian bytes.
func sumOf(text string) string {
	var b [sumBytes]byte
	crc := Crc(text)
	for i := range b {
		b[i] = byte(crc >> (8 * i))
	}
	return string(b[:])
}

// Unseal: see chapter 2.
func Unseal(text string) TextOut {
	if len(text) > MaxBytes {
		return TextOut{Code: ErrSize}
	}
	if len(text) < sumBytes {
		return TextOut{Code: ErrShort}
	}
	end := len(text) - sumBytes
	if text[end:] != sumOf(text[:end]) {
		return TextOut{Code: ErrSum}
	}
	return TextOut{Text: joined(text[:end])}
}
