package tests

import (
	"math"
	"strings"
	"testing"

	"loop.example/g00375/impl"
)

const wordTop = 1<<32 - 1

// noWords lie just outside the bounds of a word, and as far out as can be;
// some of them would be words if their higher bits were dropped.
func noWords() []int64 {
	return []int64{-1, -2, 1 << 32, 1<<32 + 5, -(1 << 32), 1 << 62, math.MinInt64, math.MaxInt64}
}

// someWords has the ends, each bit alone, each bit alone missing, and more
// without a pattern.
func someWords() []int64 {
	list := []int64{0, 1, 5, 16777218, 1<<31 - 1, 1 << 31, 1<<31 + 1, wordTop - 1, wordTop}
	for i := range 32 {
		list = append(list, 1<<i, wordTop-1<<i)
	}
	v := uint32(1)
	for range 200 {
		v = v*1664525 + 1013904223
		list = append(list, int64(v))
	}
	return list
}

// someBytes are n bytes without a pattern, told by n alone.
func someBytes(n int) []byte {
	data := make([]byte, n)
	v := uint32(n) + 7
	for i := range data {
		v = v*1664525 + 1013904223
		data[i] = byte(v >> 24)
	}
	return data
}

// turnOnce turns by one bit, by numbers alone, so that it shares nothing with
// what it is held against.
func turnOnce(v int64) int64 {
	return v/2 + v%2*(1<<31)
}

// roomy gives a slice with room behind it, filled, to see who writes there.
func roomy(data []byte) []byte {
	whole := make([]byte, len(data)+8)
	copy(whole, data)
	for i := len(data); i < len(whole); i++ {
		whole[i] = 0xa5
	}
	return whole[:len(data)]
}

func sameInt(t *testing.T, name string, got impl.IntResult, code int64, value int64) {
	t.Helper()
	if got.Code != code || got.Value != value {
		t.Errorf("%s: %+v, want code %d, value %d", name, got, code, value)
	}
}

func sameList(t *testing.T, name string, got impl.BytesResult, code int64, data []byte) {
	t.Helper()
	if got.Code != code || string(got.Bytes) != string(data) {
		t.Errorf("%s: %+v, want code %d, bytes %v", name, got, code, data)
	}
}

func sameText(t *testing.T, name string, got impl.TextResult, code int64, text string) {
	t.Helper()
	if got.Code != code || got.Text != text {
		t.Errorf("%s: %+v, want code %d, text %q", name, got, code, text)
	}
}

func TestCodesAndBounds(t *testing.T) {
	codes := []int64{impl.OK, impl.ErrForm, impl.ErrMany, impl.ErrRange, impl.ErrNone, impl.ErrText, impl.ErrTaken, impl.ErrSign, impl.ErrState, impl.ErrOld, impl.ErrLimit}
	for i, c := range codes {
		if c != int64(i) {
			t.Errorf("code %d has the number %d", i, c)
		}
	}
	if impl.MaxBytes != 600 {
		t.Error(impl.MaxBytes)
	}
}

func TestTurnWord(t *testing.T) {
	rows := []struct{ v, n, want int64 }{
		{0, 0, 0}, {0, 31, 0}, {5, 0, 5}, {wordTop, 0, wordTop}, {wordTop, 17, wordTop},
		{1, 1, 1 << 31}, {1, 31, 2}, {1 << 31, 31, 1}, {1 << 31, 1, 1 << 30}, {2, 1, 1},
		{0x12345678, 4, 0x81234567}, {0x12345678, 8, 0x78123456}, {0x12345678, 28, 0x23456781},
	}
	for _, r := range rows {
		sameInt(t, "TurnWord", impl.TurnWord(r.v, r.n), impl.OK, r.want)
	}
	for _, v := range someWords() {
		want := v
		for n := range int64(32) {
			sameInt(t, "TurnWord by steps", impl.TurnWord(v, n), impl.OK, want)
			want = turnOnce(want)
		}
	}
}

func TestTurnWordWrong(t *testing.T) {
	for _, v := range noWords() {
		for _, n := range []int64{-1, 0, 1, 31, 32} {
			sameInt(t, "TurnWord of no word", impl.TurnWord(v, n), impl.ErrRange, 0)
		}
	}
	for _, n := range []int64{-1, -31, -32, 32, 33, 63, 64, 1 << 32, 1<<32 + 1, math.MinInt64, math.MaxInt64} {
		for _, v := range []int64{0, 5, wordTop} {
			sameInt(t, "TurnWord by too much", impl.TurnWord(v, n), impl.ErrRange, 0)
		}
	}
}

func TestAddWords(t *testing.T) {
	rows := []struct{ a, b, want int64 }{
		{0, 0, 0}, {1, 2, 3}, {wordTop, 0, wordTop}, {0, wordTop, wordTop}, {wordTop, 1, 0}, {1, wordTop, 0},
		{wordTop, 2, 1}, {wordTop, wordTop, wordTop - 1}, {1 << 31, 1 << 31, 0}, {1 << 31, 1<<31 - 1, wordTop},
	}
	for _, r := range rows {
		sameInt(t, "AddWords", impl.AddWords(r.a, r.b), impl.OK, r.want)
	}
	for _, a := range someWords() {
		for _, b := range someWords() {
			sameInt(t, "AddWords", impl.AddWords(a, b), impl.OK, (a+b)%(1<<32))
		}
	}
}

func TestAddWordsWrong(t *testing.T) {
	for _, v := range noWords() {
		for _, w := range []int64{0, 1, 1 << 31, wordTop} {
			sameInt(t, "AddWords, first wrong", impl.AddWords(v, w), impl.ErrRange, 0)
			sameInt(t, "AddWords, second wrong", impl.AddWords(w, v), impl.ErrRange, 0)
		}
		for _, w := range noWords() {
			sameInt(t, "AddWords, both wrong", impl.AddWords(v, w), impl.ErrRange, 0)
		}
	}
}

func TestWordBytes(t *testing.T) {
	rows := []struct {
		v    int64
		want []byte
	}{
		{0, []byte{0, 0, 0, 0}}, {1, []byte{0, 0, 0, 1}}, {wordTop, []byte{255, 255, 255, 255}},
		{16777218, []byte{1, 0, 0, 2}}, {0x12345678, []byte{0x12, 0x34, 0x56, 0x78}}, {1 << 31, []byte{128, 0, 0, 0}},
	}
	for _, r := range rows {
		sameList(t, "WordBytes", impl.WordBytes(r.v), impl.OK, r.want)
		sameInt(t, "BytesWord", impl.BytesWord(r.want), impl.OK, r.v)
	}
	for _, v := range noWords() {
		sameList(t, "WordBytes of no word", impl.WordBytes(v), impl.ErrRange, nil)
	}
}

func TestBytesWordWrong(t *testing.T) {
	sameInt(t, "BytesWord of nil", impl.BytesWord(nil), impl.ErrForm, 0)
	for _, n := range []int{0, 1, 2, 3, 5, 6, 8, 599, 600, 601, 5000} {
		// Above MaxBytes it is the wrong length as well, and that is asked first.
		sameInt(t, "BytesWord of another length", impl.BytesWord(someBytes(n)), impl.ErrForm, 0)
	}
	sameInt(t, "BytesWord of three in a roomy slice", impl.BytesWord(roomy([]byte{1, 2, 3})), impl.ErrForm, 0)
}

func TestHexOf(t *testing.T) {
	sameText(t, "HexOf nil", impl.HexOf(nil), impl.OK, "")
	sameText(t, "HexOf empty", impl.HexOf([]byte{}), impl.OK, "")
	sameText(t, "HexOf", impl.HexOf([]byte{0, 171}), impl.OK, "00ab")
	sameText(t, "HexOf", impl.HexOf([]byte{0x01, 0x23, 0x45, 0x67, 0x89, 0xab, 0xcd, 0xef}), impl.OK, "0123456789abcdef")
	sameText(t, "HexOf", impl.HexOf([]byte{0xff, 0x0f, 0xf0}), impl.OK, "ff0ff0")
	sameText(t, "HexOf 600", impl.HexOf(make([]byte, 600)), impl.OK, strings.Repeat("0", 1200))
	sameText(t, "HexOf 601", impl.HexOf(make([]byte, 601)), impl.ErrMany, "")
	sameText(t, "HexOf 5000", impl.HexOf(someBytes(5000)), impl.ErrMany, "")
}

func TestBytesOfHex(t *testing.T) {
	sameList(t, "BytesOfHex of nothing", impl.BytesOfHex(""), impl.OK, nil)
	sameList(t, "BytesOfHex", impl.BytesOfHex("00ab"), impl.OK, []byte{0, 171})
	sameList(t, "BytesOfHex", impl.BytesOfHex("0123456789abcdef"), impl.OK, []byte{0x01, 0x23, 0x45, 0x67, 0x89, 0xab, 0xcd, 0xef})
	sameList(t, "BytesOfHex of 1200", impl.BytesOfHex(strings.Repeat("f", 1200)), impl.OK, []byte(strings.Repeat("\xff", 600)))
}

func TestBytesOfHexOdd(t *testing.T) {
	for n := 1; n < 1200; n += 2 {
		sameList(t, "BytesOfHex of an odd number", impl.BytesOfHex(strings.Repeat("7", n)), impl.ErrText, nil)
	}
	sameList(t, "BytesOfHex odd, and no digit", impl.BytesOfHex("00g"), impl.ErrText, nil)
}

func TestBytesOfHexTooLong(t *testing.T) {
	for _, n := range []int{1201, 1202, 1203, 2400, 10000} {
		sameList(t, "BytesOfHex too long", impl.BytesOfHex(strings.Repeat("a", n)), impl.ErrMany, nil)
		// What is too long and cannot be read either is too long first.
		sameList(t, "BytesOfHex too long, no digits", impl.BytesOfHex(strings.Repeat("x", n)), impl.ErrMany, nil)
	}
}

// isDigit is told by a list, so that it shares nothing with a comparison of bounds.
func isDigit(c byte) bool {
	return strings.IndexByte("0123456789abcdef", c) >= 0
}

func TestBytesOfHexDigits(t *testing.T) {
	for i := range 256 {
		c := byte(i)
		code := int64(impl.ErrText)
		if isDigit(c) {
			code = impl.OK
		}
		for _, text := range []string{string([]byte{c, '0'}), string([]byte{'0', c}), "12" + string([]byte{c, 'a'}) + "34", "12" + string([]byte{'a', c}) + "34"} {
			got := impl.BytesOfHex(text)
			if got.Code != code {
				t.Errorf("BytesOfHex of %q: code %d, want %d", text, got.Code, code)
			}
			if code != impl.OK && len(got.Bytes) != 0 {
				t.Errorf("BytesOfHex of %q: bytes %v beside a code", text, got.Bytes)
			}
		}
	}
}

func TestBytesOfHexWrong(t *testing.T) {
	texts := []string{"0A", "AB", "Ff", "0x", "0x00", " 00", "00 ", "0 0", "00\n", "-1", "+1", "zz", "é", "\x00\x00", "٠٠", "00 ab",
		strings.Repeat("0", 1199) + "g", "g" + strings.Repeat("0", 1199), strings.Repeat("0", 1198) + "G0"}
	for _, text := range texts {
		sameList(t, "BytesOfHex of "+text, impl.BytesOfHex(text), impl.ErrText, nil)
	}
}

func TestSameBytes(t *testing.T) {
	if !impl.SameBytes(nil, nil) || !impl.SameBytes(nil, []byte{}) || !impl.SameBytes([]byte{}, nil) || !impl.SameBytes([]byte{}, []byte{}) {
		t.Error("nothing and nothing are not the same")
	}
	for _, n := range []int{1, 2, 4, 32, 599, 600, 601, 2000} {
		a := someBytes(n)
		if !impl.SameBytes(a, a) || !impl.SameBytes(a, someBytes(n)) {
			t.Errorf("%d bytes are not the same as themselves", n)
		}
		if impl.SameBytes(a, a[:n-1]) || impl.SameBytes(a[:n-1], a) || impl.SameBytes(a, nil) || impl.SameBytes(nil, a) {
			t.Errorf("%d bytes are the same as fewer", n)
		}
		for _, at := range []int{0, n / 2, n - 1} {
			b := someBytes(n)
			b[at] ^= 1
			if impl.SameBytes(a, b) || impl.SameBytes(b, a) {
				t.Errorf("%d bytes are the same with another one at %d", n, at)
			}
		}
	}
	if impl.SameBytes([]byte{0}, nil) || impl.SameBytes([]byte{1, 2}, []byte{2, 1}) {
		t.Error("what is not the same is the same")
	}
}

func TestP2TurnedAllAround(t *testing.T) {
	for _, v := range someWords() {
		by1 := v
		for range 32 {
			by1 = impl.TurnWord(by1, 1).Value
		}
		sameInt(t, "a word turned 32 times", impl.IntResult{Value: by1}, impl.OK, v)
		for n := int64(1); n < 32; n++ {
			there := impl.TurnWord(v, n)
			sameInt(t, "a word turned there and on", impl.TurnWord(there.Value, 32-n), impl.OK, v)
		}
	}
}

func TestP2ReadBack(t *testing.T) {
	for _, v := range someWords() {
		w := impl.WordBytes(v)
		if w.Code != impl.OK || len(w.Bytes) != 4 {
			t.Errorf("WordBytes of %d: %+v", v, w)
		}
		sameInt(t, "a word read back", impl.BytesWord(w.Bytes), impl.OK, v)
	}
	for n := range impl.MaxBytes + 1 {
		data := someBytes(n)
		text := impl.HexOf(data)
		if text.Code != impl.OK || len(text.Text) != 2*n {
			t.Errorf("HexOf %d bytes: code %d, %d digits", n, text.Code, len(text.Text))
		}
		sameList(t, "bytes read back", impl.BytesOfHex(text.Text), impl.OK, data)
	}
	for i := range 256 {
		data := []byte{byte(i)}
		sameList(t, "a byte read back", impl.BytesOfHex(impl.HexOf(data).Text), impl.OK, data)
	}
}

func TestP1ArgumentsStay(t *testing.T) {
	for _, n := range []int{0, 1, 3, 4, 5, 32, 600, 601} {
		a, b := roomy(someBytes(n)), roomy(someBytes(n))
		impl.BytesWord(a)
		impl.HexOf(a)
		impl.SameBytes(a, b)
		impl.SameBytes(a, b[:n/2])
		for _, x := range [][]byte{a, b} {
			if string(x[:n+8]) != string(someBytes(n))+strings.Repeat("\xa5", 8) {
				t.Errorf("an argument of %d bytes is changed", n)
			}
		}
	}
}

func spoil(data []byte) {
	data = data[:cap(data)]
	for i := range data {
		data[i] ^= 0xff
	}
}

func TestP1AnswersAreNewMemory(t *testing.T) {
	for _, v := range []int64{0, 16777218, wordTop} {
		first := impl.WordBytes(v)
		want := string(first.Bytes)
		second := impl.WordBytes(v)
		spoil(first.Bytes)
		sameList(t, "WordBytes told ahead", second, impl.OK, []byte(want))
		sameList(t, "WordBytes told behind", impl.WordBytes(v), impl.OK, []byte(want))
	}
	for _, n := range []int{0, 1, 2, 32, 600} {
		text := impl.HexOf(someBytes(n)).Text
		first := impl.BytesOfHex(text)
		second := impl.BytesOfHex(text)
		spoil(first.Bytes)
		sameList(t, "BytesOfHex told ahead", second, impl.OK, someBytes(n))
		sameList(t, "BytesOfHex told behind", impl.BytesOfHex(text), impl.OK, someBytes(n))
		data := someBytes(n)
		told := impl.HexOf(data)
		spoil(data)
		sameText(t, "HexOf what is changed behind it", told, impl.OK, text)
	}
}

func TestP1HangsOnArgumentsAlone(t *testing.T) {
	ask := func() {
		sameInt(t, "TurnWord", impl.TurnWord(0x12345678, 8), impl.OK, 0x78123456)
		sameInt(t, "AddWords", impl.AddWords(wordTop, 2), impl.OK, 1)
		sameList(t, "WordBytes", impl.WordBytes(258), impl.OK, []byte{0, 0, 1, 2})
		sameInt(t, "BytesWord", impl.BytesWord([]byte{0, 0, 1, 2}), impl.OK, 258)
		sameText(t, "HexOf", impl.HexOf([]byte{1, 254}), impl.OK, "01fe")
		sameList(t, "BytesOfHex", impl.BytesOfHex("01fe"), impl.OK, []byte{1, 254})
		if !impl.SameBytes([]byte{1, 254}, []byte{1, 254}) {
			t.Error("SameBytes")
		}
	}
	ask()
	impl.TurnWord(-1, 99)
	impl.AddWords(-1, 7)
	impl.WordBytes(1 << 40)
	impl.BytesWord(someBytes(9))
	impl.HexOf(someBytes(601))
	impl.BytesOfHex("0")
	impl.BytesOfHex(strings.Repeat("0", 1201))
	impl.SameBytes(nil, []byte{1})
	ask()
}
