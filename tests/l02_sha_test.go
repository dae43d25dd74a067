package tests

import (
	"bytes"
	"crypto/sha256"
	"encoding/hex"
	"math"
	"math/big"
	"slices"
	"strconv"
	"strings"
	"testing"

	"loop.example/g00375/impl"
)

// edgeLengths are those at which one more byte needs one more block, and the
// longest that is taken.
func edgeLengths() []int {
	return []int{0, 1, 3, 4, 54, 55, 56, 57, 62, 63, 64, 65, 118, 119, 120, 121, 127, 128, 183, 184, 503, 504, 567, 568, 599, 600}
}

func tooLong() []int {
	return []int{601, 602, 640, 1200, 5000}
}

func sameNumbers(t *testing.T, name string, got impl.IntsResult, code int64, list []int64) {
	t.Helper()
	if got.Code != code || !slices.Equal(got.List, list) {
		t.Errorf("%s: %+v, want code %d, list %v", name, got, code, list)
	}
}

// someState is eight words without a pattern, told by n alone.
func someState(n int) []int64 {
	list := make([]int64, 8)
	v := uint32(n)*2654435761 + 99
	for i := range list {
		v = v*1664525 + 1013904223
		v ^= v >> 13
		list[i] = int64(v)
	}
	return list
}

// roomyState has room behind it, filled, to see who writes there.
func roomyState(list []int64) []int64 {
	whole := append(slices.Clone(list), 77, 78, 79, 80)
	return whole[:len(list)]
}

// turnBy and the rounds below reckon in int64 with halves and remainders, so
// that they share nothing with what they are held against.
func turnBy(v int64, n int) int64 {
	for range n {
		v = turnOnce(v)
	}
	return v
}

func sumOf(list ...int64) int64 {
	sum := int64(0)
	for _, v := range list {
		sum = (sum + v) % (1 << 32)
	}
	return sum
}

func roundByHand(s []int64, word int64, key int64) []int64 {
	a, b, c, d, e, f, g, h := s[0], s[1], s[2], s[3], s[4], s[5], s[6], s[7]
	t1 := sumOf(h, turnBy(e, 6)^turnBy(e, 11)^turnBy(e, 25), (e&f)^((wordTop-e)&g), key, word)
	t2 := sumOf(turnBy(a, 2)^turnBy(a, 13)^turnBy(a, 22), (a&b)^(a&c)^(b&c))
	return []int64{sumOf(t1, t2), a, b, c, sumOf(d, t1), e, f, g}
}

func spreadByHand(block []byte) []int64 {
	w := make([]int64, 64)
	for i := range w {
		if i < 16 {
			w[i] = int64(block[4*i])<<24 + int64(block[4*i+1])<<16 + int64(block[4*i+2])<<8 + int64(block[4*i+3])
			continue
		}
		x, y := w[i-15], w[i-2]
		w[i] = sumOf(turnBy(y, 17)^turnBy(y, 19)^(y/1024), w[i-7], turnBy(x, 7)^turnBy(x, 18)^(x/8), w[i-16])
	}
	return w
}

func padByHand(data []byte) []byte {
	whole := append(slices.Clone(data), 128)
	for len(whole)%64 != 56 {
		whole = append(whole, 0)
	}
	n := len(data) * 8
	return append(whole, 0, 0, 0, 0, 0, 0, byte(n/256), byte(n%256))
}

// primes are the first n.
func primes(n int) []int64 {
	var list []int64
	for v := int64(2); len(list) < n; v++ {
		if !slices.ContainsFunc(list, func(p int64) bool { return v%p == 0 }) {
			list = append(list, v)
		}
	}
	return list
}

// rootBits are the first 32 bits of the fractional part of v's root of that
// power: the greatest whole number whose power is not above v * 2^(32 power).
func rootBits(v int64, power int64) int64 {
	bound := new(big.Int).Lsh(big.NewInt(v), uint(32*power))
	root := new(big.Int)
	for bit := 40; bit >= 0; bit-- {
		more := new(big.Int).SetBit(root, bit, 1)
		if new(big.Int).Exp(more, big.NewInt(power), nil).Cmp(bound) <= 0 {
			root = more
		}
	}
	return root.Int64() % (1 << 32)
}

// digestByRounds goes through the program's own blocks and rounds, as the
// document tells the digest.
func digestByRounds(data []byte) []byte {
	keys := primes(64)
	state := make([]int64, 8)
	for i := range state {
		state[i] = rootBits(keys[i], 2)
	}
	for i, p := range keys {
		keys[i] = rootBits(p, 3)
	}
	for block := range slices.Chunk(impl.PadBytes(data).Bytes, 64) {
		ahead := state
		for i, word := range impl.SpreadBlock(block).List {
			state = impl.MixRound(state, word, keys[i]).List
		}
		for i := range state {
			state[i] = impl.AddWords(state[i], ahead[i]).Value
		}
	}
	var digest []byte
	for _, v := range state {
		digest = append(digest, impl.WordBytes(v).Bytes...)
	}
	return digest
}

func TestMixRound(t *testing.T) {
	zero := make([]int64, 8)
	full := slices.Repeat([]int64{wordTop}, 8)
	sameNumbers(t, "MixRound of zeros", impl.MixRound(zero, 0, 0), impl.OK, zero)
	sameNumbers(t, "MixRound with a key", impl.MixRound(zero, 0, 1), impl.OK, []int64{1, 0, 0, 0, 1, 0, 0, 0})
	sameNumbers(t, "MixRound with a word", impl.MixRound(zero, 1, 0), impl.OK, []int64{1, 0, 0, 0, 1, 0, 0, 0})
	sameNumbers(t, "MixRound with the greatest", impl.MixRound(zero, wordTop, wordTop), impl.OK, []int64{wordTop - 1, 0, 0, 0, wordTop - 1, 0, 0, 0})
	sameNumbers(t, "MixRound with a sum that wraps", impl.MixRound(zero, wordTop, 1), impl.OK, zero)
	sameNumbers(t, "MixRound of the greatest", impl.MixRound(full, wordTop, wordTop), impl.OK, roundByHand(full, wordTop, wordTop))
	start := []int64{0x6a09e667, 0xbb67ae85, 0x3c6ef372, 0xa54ff53a, 0x510e527f, 0x9b05688c, 0x1f83d9ab, 0x5be0cd19}
	// The first round of the digest of "abc", as it is published.
	sameNumbers(t, "MixRound of abc", impl.MixRound(start, 0x61626380, 0x428a2f98), impl.OK,
		[]int64{0x5d6aebcd, 0x6a09e667, 0xbb67ae85, 0x3c6ef372, 0xfa2a4622, 0x510e527f, 0x9b05688c, 0x1f83d9ab})
}

func TestMixRoundByHand(t *testing.T) {
	words := someWords()
	for n := range 300 {
		state, word, key := someState(n), words[n%len(words)], words[(n*7+3)%len(words)]
		sameNumbers(t, "MixRound", impl.MixRound(state, word, key), impl.OK, roundByHand(state, word, key))
	}
	for place := range 8 {
		for _, v := range words {
			state := make([]int64, 8)
			state[place] = v
			sameNumbers(t, "MixRound of one number", impl.MixRound(state, 0, 0), impl.OK, roundByHand(state, 0, 0))
			state = slices.Repeat([]int64{wordTop}, 8)
			state[place] = v
			sameNumbers(t, "MixRound of one other number", impl.MixRound(state, v, 5), impl.OK, roundByHand(state, v, 5))
		}
	}
}

func TestMixRoundWrongForm(t *testing.T) {
	sameNumbers(t, "MixRound of nil", impl.MixRound(nil, 0, 0), impl.ErrForm, nil)
	for _, n := range []int{0, 1, 6, 7, 9, 10, 16, 64, 1000} {
		state := make([]int64, n)
		sameNumbers(t, "MixRound of another length", impl.MixRound(state, 0, 0), impl.ErrForm, nil)
		// The form is asked ahead of the bounds.
		for _, v := range noWords() {
			sameNumbers(t, "MixRound of another length, word wrong", impl.MixRound(state, v, 0), impl.ErrForm, nil)
			sameNumbers(t, "MixRound of another length, key wrong", impl.MixRound(state, 0, v), impl.ErrForm, nil)
			sameNumbers(t, "MixRound of another length, all wrong", impl.MixRound(slices.Repeat([]int64{v}, n), v, v), impl.ErrForm, nil)
		}
	}
	sameNumbers(t, "MixRound of seven in a roomy slice", impl.MixRound(roomyState(make([]int64, 7)), 0, 0), impl.ErrForm, nil)
}

func TestMixRoundWrongRange(t *testing.T) {
	for _, v := range noWords() {
		for place := range 8 {
			state := someState(place)
			state[place] = v
			sameNumbers(t, "MixRound of no word", impl.MixRound(state, 0, wordTop), impl.ErrRange, nil)
		}
		sameNumbers(t, "MixRound, word wrong", impl.MixRound(someState(1), v, 0), impl.ErrRange, nil)
		sameNumbers(t, "MixRound, key wrong", impl.MixRound(someState(2), 0, v), impl.ErrRange, nil)
		sameNumbers(t, "MixRound, all wrong", impl.MixRound(slices.Repeat([]int64{v}, 8), v, v), impl.ErrRange, nil)
	}
}

func TestSpreadBlock(t *testing.T) {
	sameNumbers(t, "SpreadBlock of zeros", impl.SpreadBlock(make([]byte, 64)), impl.OK, make([]int64, 64))
	ones := bytes.Repeat([]byte{255}, 64)
	sameNumbers(t, "SpreadBlock of ones", impl.SpreadBlock(ones), impl.OK, spreadByHand(ones))
	for n := range 200 {
		block := someBytes(64 + n)[n:]
		sameNumbers(t, "SpreadBlock", impl.SpreadBlock(block), impl.OK, spreadByHand(block))
	}
	for bit := range 512 {
		block := make([]byte, 64)
		block[bit/8] = 1 << (bit % 8)
		sameNumbers(t, "SpreadBlock of one bit", impl.SpreadBlock(block), impl.OK, spreadByHand(block))
	}
	// The block of "abc": its 17th and 18th words are easy to tell.
	abc := impl.SpreadBlock(impl.PadBytes([]byte("abc")).Bytes)
	if len(abc.List) != 64 || abc.List[0] != 0x61626380 || abc.List[15] != 24 || abc.List[16] != 0x61626380 || abc.List[17] != 0x000f0000 {
		t.Errorf("SpreadBlock of abc: %+v", abc)
	}
}

func TestSpreadBlockWrong(t *testing.T) {
	sameNumbers(t, "SpreadBlock of nil", impl.SpreadBlock(nil), impl.ErrForm, nil)
	for _, n := range []int{0, 1, 4, 16, 62, 63, 65, 66, 127, 128, 600, 601, 5000} {
		sameNumbers(t, "SpreadBlock of another length", impl.SpreadBlock(someBytes(n)), impl.ErrForm, nil)
	}
	sameNumbers(t, "SpreadBlock of 63 in a roomy slice", impl.SpreadBlock(roomy(someBytes(63))), impl.ErrForm, nil)
}

func TestPadBytes(t *testing.T) {
	nothing := make([]byte, 64)
	nothing[0] = 128
	sameList(t, "PadBytes of nil", impl.PadBytes(nil), impl.OK, nothing)
	sameList(t, "PadBytes of nothing", impl.PadBytes([]byte{}), impl.OK, nothing)
	rows := []struct{ n, want int }{{0, 64}, {1, 64}, {55, 64}, {56, 128}, {63, 128}, {64, 128}, {65, 128}, {119, 128}, {120, 192}, {600, 640}}
	for _, r := range rows {
		got := impl.PadBytes(make([]byte, r.n))
		if got.Code != impl.OK || len(got.Bytes) != r.want {
			t.Errorf("PadBytes of %d: code %d, %d bytes, want %d", r.n, got.Code, len(got.Bytes), r.want)
		}
	}
	for n := range impl.MaxBytes + 1 {
		data := someBytes(n)
		sameList(t, "PadBytes", impl.PadBytes(data), impl.OK, padByHand(data))
		sameList(t, "PadBytes in a roomy slice", impl.PadBytes(roomyFor(data)), impl.OK, padByHand(data))
		ones := bytes.Repeat([]byte{255}, n)
		sameList(t, "PadBytes of ones", impl.PadBytes(ones), impl.OK, padByHand(ones))
	}
}

func TestDigestKnown(t *testing.T) {
	rows := []struct{ data, want string }{
		{"", "e3b0c44298fc1c149afbf4c8996fb92427ae41e4649b934ca495991b7852b855"},
		{"a", "ca978112ca1bbdcafac231b39a23dc4da786eff8147c4e72b9807785afee48bb"},
		{"abc", "ba7816bf8f01cfea414140de5dae2223b00361a396177a9cb410ff61f20015ad"},
		{"abcdbcdecdefdefgefghfghighijhijkijkljklmklmnlmnomnopnopq", "248d6a61d20638b8e5c026930c3e6039a33ce45964ff2167f6ecedd419db06c1"},
		{"abcdefghbcdefghicdefghijdefghijkefghijklfghijklmghijklmnhijklmnoijklmnopjklmnopqklmnopqrlmnopqrsmnopqrstnopqrstu", "cf5b16a778af8380036ce59e7b0492370b249b11e8f07a51afac45037afee9d1"},
		{"The quick brown fox jumps over the lazy dog", "d7a8fbb307d7809469ca9abcb0082e4f8d5651e46d3cdb762d02d0bf37c9e592"},
		{"\xbd", "68325720aabd7c82f30f554b313d0570c95accbb7dc4b5aae11204c08ffe732b"},
	}
	for _, r := range rows {
		want, err := hex.DecodeString(r.want)
		if err != nil {
			t.Fatal(err)
		}
		sameList(t, "DigestOf "+strconv.Quote(r.data), impl.DigestOf([]byte(r.data)), impl.OK, want)
		sameText(t, "DigestText "+strconv.Quote(r.data), impl.DigestText([]byte(r.data)), impl.OK, r.want)
	}
	sameText(t, "DigestText nil", impl.DigestText(nil), impl.OK, rows[0].want)
	sameText(t, "DigestText 64 zeros", impl.DigestText(make([]byte, 64)), impl.OK, "f5a5fd42d16a20302798ef6ed309979b43003d2320d9f0e8ea9831a92759fb4b")
}

func TestDigestOfAllLengths(t *testing.T) {
	for n := range impl.MaxBytes + 1 {
		for _, data := range [][]byte{someBytes(n), make([]byte, n), bytes.Repeat([]byte{255}, n)} {
			want := sha256.Sum256(data)
			sameList(t, "DigestOf", impl.DigestOf(data), impl.OK, want[:])
			sameText(t, "DigestText", impl.DigestText(data), impl.OK, hex.EncodeToString(want[:]))
		}
	}
}

func TestDigestTooLong(t *testing.T) {
	for _, n := range tooLong() {
		for _, data := range [][]byte{make([]byte, n), someBytes(n)} {
			sameList(t, "PadBytes too long", impl.PadBytes(data), impl.ErrMany, nil)
			sameList(t, "DigestOf too long", impl.DigestOf(data), impl.ErrMany, nil)
			sameText(t, "DigestText too long", impl.DigestText(data), impl.ErrMany, "")
		}
	}
}

func TestP3DigestIsToldByRounds(t *testing.T) {
	for _, n := range edgeLengths() {
		data := someBytes(n)
		got := impl.DigestOf(data)
		if len(got.Bytes) != 32 {
			t.Errorf("DigestOf %d bytes has %d", n, len(got.Bytes))
		}
		sameList(t, "DigestOf by rounds", got, impl.OK, digestByRounds(data))
		sameText(t, "DigestText", impl.DigestText(data), impl.OK, impl.HexOf(got.Bytes).Text)
	}
}

func TestP3DigestHangsOnAllOfData(t *testing.T) {
	seen := map[string]int{}
	for n := range impl.MaxBytes + 1 {
		digest := impl.DigestText(make([]byte, n)).Text
		if at, ok := seen[digest]; ok {
			t.Errorf("%d and %d zeros have one digest", at, n)
		}
		seen[digest] = n
	}
	for _, n := range edgeLengths() {
		want := impl.DigestText(someBytes(n)).Text
		for at := range n {
			data := someBytes(n)
			data[at] ^= 1 << (at % 8)
			if impl.DigestText(data).Text == want {
				t.Errorf("of %d bytes, that at %d may be another", n, at)
			}
		}
		sameText(t, "DigestText with room behind", impl.DigestText(roomyFor(someBytes(n))), impl.OK, want)
	}
}

func TestP3SixNumbersAreMovedOn(t *testing.T) {
	words := someWords()
	for n := range 300 {
		state := someState(n + 1000)
		got := impl.MixRound(state, words[n%len(words)], words[(n*5+1)%len(words)])
		if got.Code != impl.OK || len(got.List) != 8 {
			t.Fatalf("MixRound: %+v", got)
		}
		if !slices.Equal(got.List[1:4], state[:3]) || !slices.Equal(got.List[5:], state[4:7]) {
			t.Errorf("MixRound of %v moves on %v", state, got.List)
		}
		for _, v := range got.List {
			if v < 0 || v > wordTop {
				t.Errorf("MixRound answers %d, no word", v)
			}
		}
	}
}

// roomyFor has room behind it for all that is padded, and for more.
func roomyFor(data []byte) []byte {
	whole := append(bytes.Clone(data), bytes.Repeat([]byte{0xa5}, 200)...)
	return whole[:len(data)]
}

func TestP1DigestArgumentsStay(t *testing.T) {
	for _, n := range []int{0, 1, 55, 56, 63, 64, 65, 119, 120, 600, 601} {
		data := roomyFor(someBytes(n))
		impl.SpreadBlock(data)
		impl.PadBytes(data)
		impl.DigestOf(data)
		impl.DigestText(data)
		if string(data[:n+200]) != string(someBytes(n))+strings.Repeat("\xa5", 200) {
			t.Errorf("an argument of %d bytes is changed", n)
		}
	}
	for _, list := range [][]int64{nil, someState(1)[:7], someState(2), append(someState(3), 5), {-1, 0, 0, 0, 0, 0, 0, 0}} {
		state := roomyState(list)
		impl.MixRound(state, 3, 4)
		impl.MixRound(state, -3, math.MaxInt64)
		if !slices.Equal(state[:len(list)+4], append(slices.Clone(list), 77, 78, 79, 80)) {
			t.Errorf("a state is changed: %v", state)
		}
	}
}

func spoilNumbers(list []int64) {
	list = list[:cap(list)]
	for i := range list {
		list[i] = -list[i] - 1
	}
}

func TestP1DigestAnswersAreNewMemory(t *testing.T) {
	asks := []struct {
		name string
		ask  func(data []byte) impl.BytesResult
	}{{"PadBytes", impl.PadBytes}, {"DigestOf", impl.DigestOf}}
	for _, a := range asks {
		for _, n := range edgeLengths() {
			data := someBytes(n)
			first := a.ask(data)
			want := bytes.Clone(first.Bytes)
			second := a.ask(data)
			spoil(first.Bytes)
			sameList(t, a.name+" told ahead", second, impl.OK, want)
			sameList(t, "its argument", impl.BytesResult{Bytes: data}, impl.OK, someBytes(n))
			sameList(t, a.name+" told behind", a.ask(data), impl.OK, want)
			spoil(data)
			sameList(t, a.name+" of what is changed behind it", second, impl.OK, want)
		}
	}
}

func TestP1DigestListsAreNewMemory(t *testing.T) {
	state, block := someState(9), someBytes(64)
	asks := []struct {
		name string
		ask  func() impl.IntsResult
	}{
		{"MixRound", func() impl.IntsResult { return impl.MixRound(state, 5, 6) }},
		{"SpreadBlock", func() impl.IntsResult { return impl.SpreadBlock(block) }},
	}
	for _, a := range asks {
		first := a.ask()
		want := slices.Clone(first.List)
		second := a.ask()
		spoilNumbers(first.List)
		sameNumbers(t, a.name+" told ahead", second, impl.OK, want)
		sameNumbers(t, a.name+" told behind", a.ask(), impl.OK, want)
		spoilNumbers(state)
		spoil(block)
		sameNumbers(t, a.name+" of what is changed behind it", second, impl.OK, want)
		state, block = someState(9), someBytes(64)
	}
}

func TestP1DigestHangsOnArgumentsAlone(t *testing.T) {
	ask := func() {
		sameNumbers(t, "MixRound", impl.MixRound(someState(4), 8, 9), impl.OK, roundByHand(someState(4), 8, 9))
		sameNumbers(t, "SpreadBlock", impl.SpreadBlock(someBytes(64)), impl.OK, spreadByHand(someBytes(64)))
		sameList(t, "PadBytes", impl.PadBytes(someBytes(70)), impl.OK, padByHand(someBytes(70)))
		want := sha256.Sum256(someBytes(200))
		sameList(t, "DigestOf", impl.DigestOf(someBytes(200)), impl.OK, want[:])
		sameText(t, "DigestText", impl.DigestText(someBytes(200)), impl.OK, hex.EncodeToString(want[:]))
	}
	ask()
	impl.MixRound(nil, -1, -1)
	impl.MixRound(someState(5), 1, 2)
	impl.SpreadBlock(someBytes(65))
	impl.SpreadBlock(bytes.Repeat([]byte{7}, 64))
	impl.PadBytes(someBytes(601))
	impl.DigestOf(someBytes(601))
	impl.DigestOf(someBytes(600))
	impl.DigestText(someBytes(601))
	ask()
}
