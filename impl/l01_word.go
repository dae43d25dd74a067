package impl

import (
	"bytes"
	"math/bits"
)

const OK = 0
const ErrForm = 1
const ErrMany = 2
const ErrRange = 3
const ErrNone = 4
const ErrText = 5
const ErrTaken = 6
const ErrSign = 7
const ErrState = 8
const ErrOld = 9
const ErrLimit = 10
const MaxBytes = 600

const wordTop = 1<<32 - 1
const hexDigits = "0123456789abcdef"

type IntResult struct {
	Code  int64
	Value int64
}
type IntsResult struct {
	Code int64
	List []int64
}
type BytesResult struct {
	Code  int64
	Bytes []byte
}
type TextResult struct {
	Code int64
	Text string
}

func isWord(v int64) bool {
	return v >= 0 && v <= wordTop
}

func TurnWord(v int64, n int64) IntResult {
	if !isWord(v) || n < 0 || n > 31 {
		return IntResult{Code: ErrRange}
	}
	return IntResult{Value: int64(turnRight(uint32(v), int(n)))}
}

func turnRight(w uint32, n int) uint32 {
	return bits.RotateLeft32(w, -n)
}

func AddWords(a int64, b int64) IntResult {
	if !isWord(a) || !isWord(b) {
		return IntResult{Code: ErrRange}
	}
	// The sum is taken in 32 bits, so that wrapping round leaves what is asked.
	return IntResult{Value: int64(uint32(a) + uint32(b))}
}

func WordBytes(v int64) BytesResult {
	if !isWord(v) {
		return BytesResult{Code: ErrRange}
	}
	w := uint32(v)
	return BytesResult{Bytes: []byte{byte(w >> 24), byte(w >> 16), byte(w >> 8), byte(w)}}
}

func BytesWord(data []byte) IntResult {
	if len(data) != 4 {
		return IntResult{Code: ErrForm}
	}
	var w uint32
	for _, b := range data {
		w = w<<8 | uint32(b)
	}
	return IntResult{Value: int64(w)}
}

func HexOf(data []byte) TextResult {
	if len(data) > MaxBytes {
		return TextResult{Code: ErrMany}
	}
	text := make([]byte, 0, 2*len(data))
	for _, b := range data {
		text = append(text, hexDigits[b>>4], hexDigits[b&15])
	}
	return TextResult{Text: string(text)}
}

func BytesOfHex(text string) BytesResult {
	if len(text) > 2*MaxBytes {
		return BytesResult{Code: ErrMany}
	}
	data, ok := readHex(text)
	if !ok {
		return BytesResult{Code: ErrText}
	}
	return BytesResult{Bytes: data}
}

// readHex is a machine of two states. It may meet the end of the text in the
// first of them alone: that is what refuses an odd number of digits.
func readHex(text string) ([]byte, bool) {
	data := make([]byte, 0, len(text)/2)
	var high, low byte
	var ok bool
	at := 0

higher:
	if at == len(text) {
		return data, true
	}
	high, ok = digitValue(text[at])
	at++
	if ok {
		goto lower
	}
	return nil, false

lower:
	if at == len(text) {
		return nil, false
	}
	low, ok = digitValue(text[at])
	at++
	if ok {
		data = append(data, high<<4|low)
		goto higher
	}
	return nil, false
}

// digitValue knows no capital letters: HexOf never writes them, so a text
// that has one is the text of no bytes.
func digitValue(c byte) (byte, bool) {
	switch {
	case c >= '0' && c <= '9':
		return c - '0', true
	case c >= 'a' && c <= 'f':
		return c - 'a' + 10, true
	}
	return 0, false
}

func SameBytes(a []byte, b []byte) bool {
	return bytes.Equal(a, b)
}
