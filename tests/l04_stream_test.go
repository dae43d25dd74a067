package tests

import (
	"bytes"
	"math"
	"slices"
	"testing"

	"loop.example/g00375/impl"
)

// numbers without a pattern: 16 of them, told by n alone.
func sixteenOf(n int) []int64 {
	return append(someState(2*n), someState(2*n+1)...)
}

// rising has the bytes 0, 1, 2 and so on, as the known values have.
func rising(n int) []byte {
	data := make([]byte, n)
	for i := range data {
		data[i] = byte(i)
	}
	return data
}

// countsOfStream has numbers that would be words if their higher bits were
// dropped.
func countsOfStream() []int64 {
	return append([]int64{0, 1, 2, 255, 256, 65536, 1<<31 - 1, 1 << 31, wordTop - 1, wordTop}, noWords()...)
}

func noPlaces() []int64 {
	return []int64{-1, -2, -16, 16, 17, 31, 32, 256, 1 << 32, 1<<32 + 3, 1 << 62, math.MinInt64, math.MaxInt64}
}

// leftBy turns by one bit at a time, so that it shares nothing with what it is
// held against.
func leftBy(v int64, n int) int64 {
	return turnBy(v, 32-n)
}

// quarterByHand, startByHand, blockByHand, xorByHand and nonceByHand are what
// the program's answers are held against.
func quarterByHand(state []int64, a, b, c, d int64) []int64 {
	s := slices.Clone(state)
	s[a] = sumOf(s[a], s[b])
	s[d] = leftBy(s[d]^s[a], 16)
	s[c] = sumOf(s[c], s[d])
	s[b] = leftBy(s[b]^s[c], 12)
	s[a] = sumOf(s[a], s[b])
	s[d] = leftBy(s[d]^s[a], 8)
	s[c] = sumOf(s[c], s[d])
	s[b] = leftBy(s[b]^s[c], 7)
	return s
}

func wordsByHand(data []byte) []int64 {
	var list []int64
	for at := 0; at < len(data); at += 4 {
		v := int64(0)
		for i := 3; i >= 0; i-- {
			v = v*256 + int64(data[at+i])
		}
		list = append(list, v)
	}
	return list
}

func startByHand(key []byte, nonce []byte, count int64) []int64 {
	list := wordsByHand([]byte("expand 32-byte k"))
	list = append(list, wordsByHand(key)...)
	list = append(list, count)
	return append(list, wordsByHand(nonce)...)
}

func placesOfRounds() [][4]int64 {
	return [][4]int64{
		{0, 4, 8, 12}, {1, 5, 9, 13}, {2, 6, 10, 14}, {3, 7, 11, 15},
		{0, 5, 10, 15}, {1, 6, 11, 12}, {2, 7, 8, 13}, {3, 4, 9, 14},
	}
}

func bytesByHand(list []int64) []byte {
	var data []byte
	for _, v := range list {
		for range 4 {
			data = append(data, byte(v%256))
			v /= 256
		}
	}
	return data
}

func blockByHand(key []byte, nonce []byte, count int64) []byte {
	start := startByHand(key, nonce, count)
	state := start
	for range 10 {
		for _, p := range placesOfRounds() {
			state = quarterByHand(state, p[0], p[1], p[2], p[3])
		}
	}
	for i := range state {
		state[i] = sumOf(state[i], start[i])
	}
	return bytesByHand(state)
}

func xorByHand(key []byte, nonce []byte, data []byte) []byte {
	var noise []byte
	for count := int64(1); len(noise) < len(data); count++ {
		noise = append(noise, blockByHand(key, nonce, count)...)
	}
	out := make([]byte, len(data))
	for i := range out {
		out[i] = data[i] ^ noise[i]
	}
	return out
}

func nonceByHand(base []byte, seq int64) []byte {
	out := bytes.Clone(base)
	for i := len(out) - 1; seq > 0; i-- {
		out[i] ^= byte(seq % 256)
		seq /= 256
	}
	return out
}

// whenForm and the like tell a code where it is so, else none.
func whenForm(fault bool) int64 {
	if fault {
		return impl.ErrForm
	}
	return impl.OK
}

func whenRange(fault bool) int64 {
	if fault {
		return impl.ErrRange
	}
	return impl.OK
}

func hasNoWord(list []int64) bool {
	return slices.ContainsFunc(list, func(v int64) bool { return v < 0 || v > wordTop })
}

func hasNoPlace(places [4]int64) bool {
	return slices.ContainsFunc(places[:], func(v int64) bool { return v < 0 || v > 15 })
}

func hasTwoAlike(p [4]int64) bool {
	return p[0] == p[1] || p[0] == p[2] || p[0] == p[3] || p[1] == p[2] || p[1] == p[3] || p[2] == p[3]
}

func TestMaxPlain(t *testing.T) {
	if impl.MaxPlain != 200 {
		t.Error(impl.MaxPlain)
	}
}

func TestQuarterRoundKnown(t *testing.T) {
	// RFC 8439, 2.1.1 and 2.2.1.
	state, want := make([]int64, 16), make([]int64, 16)
	state[0], state[1], state[2], state[3] = 0x11111111, 0x01020304, 0x9b8d6f43, 0x01234567
	want[0], want[1], want[2], want[3] = 0xea2a92f4, 0xcb1cf8ce, 0x4581472e, 0x5881c4bb
	sameNumbers(t, "QuarterRound 0 1 2 3", impl.QuarterRound(state, 0, 1, 2, 3), impl.OK, want)
	state = []int64{
		0x879531e0, 0xc5ecf37d, 0x516461b1, 0xc9a62f8a, 0x44c20ef3, 0x3390af7f, 0xd9fc690b, 0x2a5f714c,
		0x53372767, 0xb00a5631, 0x974c541a, 0x359e9963, 0x5c971061, 0x3d631689, 0x2098d9d6, 0x91dbd320,
	}
	want = []int64{
		0x879531e0, 0xc5ecf37d, 0xbdb886dc, 0xc9a62f8a, 0x44c20ef3, 0x3390af7f, 0xd9fc690b, 0xcfacafd2,
		0xe46bea80, 0xb00a5631, 0x974c541a, 0x359e9963, 0x5c971061, 0xccc07c79, 0x2098d9d6, 0x91dbd320,
	}
	sameNumbers(t, "QuarterRound 2 7 8 13", impl.QuarterRound(state, 2, 7, 8, 13), impl.OK, want)
}

func TestQuarterRoundOfEnds(t *testing.T) {
	ends := []int64{0, 1, 1<<31 - 1, 1 << 31, wordTop - 1, wordTop}
	for _, a := range ends {
		for _, b := range ends {
			for _, c := range ends {
				for _, d := range ends {
					state := sixteenOf(1)
					state[15], state[0], state[7], state[3] = a, b, c, d
					sameNumbers(t, "QuarterRound", impl.QuarterRound(state, 15, 0, 7, 3), impl.OK, quarterByHand(state, 15, 0, 7, 3))
				}
			}
		}
	}
	for _, v := range someWords() {
		for _, p := range placesOfRounds() {
			state := slices.Repeat([]int64{v}, 16)
			sameNumbers(t, "QuarterRound", impl.QuarterRound(state, p[0], p[1], p[2], p[3]), impl.OK, quarterByHand(state, p[0], p[1], p[2], p[3]))
		}
	}
	zeros := make([]int64, 16)
	sameNumbers(t, "QuarterRound of zeros", impl.QuarterRound(zeros, 0, 5, 10, 15), impl.OK, zeros)
}

// allPlacesOfFour goes through what four places may be, alike or not.
func allPlacesOfFour(visit func(p [4]int64)) {
	for i := range int64(16 * 16 * 16 * 16) {
		visit([4]int64{i / 4096, i / 256 % 16, i / 16 % 16, i % 16})
	}
}

func TestP5QuarterRoundTurnsFourAlone(t *testing.T) {
	state := sixteenOf(3)
	allPlacesOfFour(func(p [4]int64) {
		got := impl.QuarterRound(state, p[0], p[1], p[2], p[3])
		if hasTwoAlike(p) {
			sameNumbers(t, "QuarterRound of two places that are the same", got, impl.ErrForm, nil)
			return
		}
		if got.Code != impl.OK || len(got.List) != 16 {
			t.Fatalf("QuarterRound %v: %+v", p, got)
		}
		for i, v := range got.List {
			if !slices.Contains(p[:], int64(i)) && v != state[i] {
				t.Fatalf("QuarterRound %v changes the number at %d", p, i)
			}
		}
		sameNumbers(t, "QuarterRound", got, impl.OK, quarterByHand(state, p[0], p[1], p[2], p[3]))
	})
}

func TestP5QuarterRoundHangsOnFourAlone(t *testing.T) {
	for _, p := range append(placesOfRounds(), [4]int64{15, 0, 1, 14}, [4]int64{3, 2, 1, 0}) {
		state, other := sixteenOf(4), sixteenOf(5)
		for _, place := range p {
			other[place] = state[place]
		}
		one := impl.QuarterRound(state, p[0], p[1], p[2], p[3])
		two := impl.QuarterRound(other, p[0], p[1], p[2], p[3])
		if len(one.List) != 16 || len(two.List) != 16 {
			t.Fatalf("QuarterRound %v: %+v, %+v", p, one, two)
		}
		for _, place := range p {
			if one.List[place] != two.List[place] {
				t.Errorf("QuarterRound %v: the number at %d hangs on others", p, place)
			}
		}
	}
}

func TestQuarterRoundWrong(t *testing.T) {
	wrong := sixteenOf(7)
	wrong[15] = wordTop + 1
	states := [][]int64{nil, {}, sixteenOf(6)[:1], sixteenOf(6)[:8], sixteenOf(6)[:15], sixteenOf(6), append(sixteenOf(6), 5), append(sixteenOf(6), sixteenOf(7)...), wrong, wrong[1:], append(slices.Clone(wrong), -1)}
	edges := []int64{-1, 0, 1, 15, 16, math.MinInt64, math.MaxInt64}
	for _, state := range states {
		for i := range 7 * 7 * 7 * 7 {
			p := [4]int64{edges[i/343], edges[i/49%7], edges[i/7%7], edges[i%7]}
			code := firstCode(whenForm(len(state) != 16), whenRange(hasNoWord(state) || hasNoPlace(p)), whenForm(hasTwoAlike(p)))
			var want []int64
			if code == impl.OK {
				want = quarterByHand(state, p[0], p[1], p[2], p[3])
			}
			sameNumbers(t, "QuarterRound at the edges", impl.QuarterRound(state, p[0], p[1], p[2], p[3]), code, want)
		}
	}
}

func TestQuarterRoundWrongRange(t *testing.T) {
	for at := range 16 {
		for _, v := range noWords() {
			state := sixteenOf(8)
			state[at] = v
			// The places of some of these rounds are others than that of the wrong number.
			for _, p := range placesOfRounds() {
				sameNumbers(t, "QuarterRound of no word", impl.QuarterRound(state, p[0], p[1], p[2], p[3]), impl.ErrRange, nil)
			}
			sameNumbers(t, "a word and two places wrong", impl.QuarterRound(state, 1, 1, 2, 3), impl.ErrRange, nil)
		}
	}
	for at := range 4 {
		for _, place := range noPlaces() {
			p := [4]int64{1, 2, 3, 4}
			p[at] = place
			sameNumbers(t, "QuarterRound of no place", impl.QuarterRound(sixteenOf(8), p[0], p[1], p[2], p[3]), impl.ErrRange, nil)
			sameNumbers(t, "a place wrong in a state too short", impl.QuarterRound(sixteenOf(8)[:15], p[0], p[1], p[2], p[3]), impl.ErrForm, nil)
		}
	}
	for _, place := range noPlaces() {
		sameNumbers(t, "two places, the same and wrong", impl.QuarterRound(sixteenOf(8), place, place, 2, 3), impl.ErrRange, nil)
		sameNumbers(t, "four places, the same and wrong", impl.QuarterRound(sixteenOf(8), place, place, place, place), impl.ErrRange, nil)
		sameNumbers(t, "two places the same, another one wrong", impl.QuarterRound(sixteenOf(8), 5, 5, 2, place), impl.ErrRange, nil)
	}
}

func nonceKnown() []byte {
	return []byte{0, 0, 0, 9, 0, 0, 0, 74, 0, 0, 0, 0}
}

func TestStartStateKnown(t *testing.T) {
	// RFC 8439, 2.3.2.
	want := []int64{
		0x61707865, 0x3320646e, 0x79622d32, 0x6b206574, 0x03020100, 0x07060504, 0x0b0a0908, 0x0f0e0d0c,
		0x13121110, 0x17161514, 0x1b1a1918, 0x1f1e1d1c, 0x00000001, 0x09000000, 0x4a000000, 0x00000000,
	}
	sameNumbers(t, "StartState", impl.StartState(rising(32), nonceKnown(), 1), impl.OK, want)
	top := slices.Repeat([]int64{wordTop}, 16)
	copy(top, want[:4])
	sameNumbers(t, "StartState at the top", impl.StartState(bytes.Repeat([]byte{255}, 32), bytes.Repeat([]byte{255}, 12), wordTop), impl.OK, top)
	zeros := make([]int64, 16)
	copy(zeros, want[:4])
	sameNumbers(t, "StartState of zeros", impl.StartState(make([]byte, 32), make([]byte, 12), 0), impl.OK, zeros)
}

// keysOfStream and noncesOfStream have the edges, inside the bounds and
// outside them.
func keysOfStream() [][]byte {
	return append(lists(0, 1, 12, 16, 31, 32, 33, 64, 600), nil, make([]byte, 31), make([]byte, 32), make([]byte, 33), rising(32), bytes.Repeat([]byte{255}, 32))
}

func noncesOfStream() [][]byte {
	return append(lists(0, 1, 8, 11, 12, 13, 16, 24, 32), nil, make([]byte, 11), make([]byte, 12), make([]byte, 13), nonceKnown(), bytes.Repeat([]byte{255}, 12))
}

func TestStartStateAndStreamBlock(t *testing.T) {
	for _, key := range keysOfStream() {
		for _, nonce := range noncesOfStream() {
			for _, count := range countsOfStream() {
				code := firstCode(whenForm(len(key) != 32 || len(nonce) != 12), whenRange(hasNoWord([]int64{count})))
				var start []int64
				var block []byte
				if code == impl.OK {
					start = startByHand(key, nonce, count)
					block = blockByHand(key, nonce, count)
				}
				sameNumbers(t, "StartState", impl.StartState(key, nonce, count), code, start)
				sameList(t, "StreamBlock", impl.StreamBlock(key, nonce, count), code, block)
			}
		}
	}
}

func TestStartStateOfEachByte(t *testing.T) {
	for i := range 32 {
		key := make([]byte, 32)
		key[i] = 200
		want := startByHand(make([]byte, 32), make([]byte, 12), 0)
		want[4+i/4] = 200 << (i % 4 * 8)
		sameNumbers(t, "StartState of a key", impl.StartState(key, make([]byte, 12), 0), impl.OK, want)
	}
	for i := range 12 {
		nonce := make([]byte, 12)
		nonce[i] = 200
		want := startByHand(make([]byte, 32), make([]byte, 12), 0)
		want[13+i/4] = 200 << (i % 4 * 8)
		sameNumbers(t, "StartState of a nonce", impl.StartState(make([]byte, 32), nonce, 0), impl.OK, want)
	}
	for _, count := range someWords() {
		want := startByHand(rising(32), nonceKnown(), 0)
		want[12] = count
		sameNumbers(t, "StartState of a count", impl.StartState(rising(32), nonceKnown(), count), impl.OK, want)
	}
}

func TestStreamCodesInOrder(t *testing.T) {
	sameNumbers(t, "key and count wrong", impl.StartState(make([]byte, 31), make([]byte, 12), -1), impl.ErrForm, nil)
	sameNumbers(t, "nonce and count wrong", impl.StartState(make([]byte, 32), make([]byte, 13), 1<<32), impl.ErrForm, nil)
	sameNumbers(t, "count alone wrong", impl.StartState(make([]byte, 32), make([]byte, 12), 1<<32), impl.ErrRange, nil)
	// Key and nonce are told apart, though both have together what they should.
	sameNumbers(t, "key for nonce", impl.StartState(make([]byte, 12), make([]byte, 32), 1), impl.ErrForm, nil)
	sameNumbers(t, "one byte in the wrong one", impl.StartState(make([]byte, 31), make([]byte, 13), 1), impl.ErrForm, nil)
	sameList(t, "key and count wrong", impl.StreamBlock(make([]byte, 33), make([]byte, 12), 1<<32), impl.ErrForm, nil)
	sameList(t, "nonce and count wrong", impl.StreamBlock(make([]byte, 32), make([]byte, 11), -1), impl.ErrForm, nil)
	sameList(t, "count alone wrong", impl.StreamBlock(make([]byte, 32), make([]byte, 12), -1), impl.ErrRange, nil)
	sameList(t, "key for nonce", impl.StreamBlock(make([]byte, 12), make([]byte, 32), 1), impl.ErrForm, nil)
	sameList(t, "key and data wrong", impl.StreamXor(make([]byte, 33), make([]byte, 12), make([]byte, 221)), impl.ErrForm, nil)
	sameList(t, "nonce and data wrong", impl.StreamXor(make([]byte, 32), nil, make([]byte, 221)), impl.ErrForm, nil)
	sameList(t, "data alone wrong", impl.StreamXor(make([]byte, 32), make([]byte, 12), make([]byte, 221)), impl.ErrMany, nil)
	sameList(t, "base and seq wrong", impl.NonceFor(make([]byte, 11), -1), impl.ErrForm, nil)
	sameList(t, "base and seq wrong", impl.NonceFor(make([]byte, 13), 1<<31+1), impl.ErrForm, nil)
	sameList(t, "seq alone wrong", impl.NonceFor(make([]byte, 12), 1<<31+1), impl.ErrRange, nil)
}

func TestStreamBlockKnown(t *testing.T) {
	last := make([]byte, 32)
	last[31] = 1
	second := make([]byte, 32)
	second[1] = 255
	two := make([]byte, 12)
	two[11] = 2
	full, fullNonce := bytes.Repeat([]byte{255}, 32), bytes.Repeat([]byte{255}, 12)
	// RFC 8439, 2.3.2 and A.1, and two of the highest count.
	rows := []struct {
		key, nonce []byte
		count      int64
		want       string
	}{
		{rising(32), nonceKnown(), 1, "10f1e7e4d13b5915500fdd1fa32071c4c7d1f4c733c068030422aa9ac3d46c4ed2826446079faa0914c2d705d98b02a2b5129cd1de164eb9cbd083e8a2503c4e"},
		{make([]byte, 32), make([]byte, 12), 0, "76b8e0ada0f13d90405d6ae55386bd28bdd219b8a08ded1aa836efcc8b770dc7da41597c5157488d7724e03fb8d84a376a43b8f41518a11cc387b669b2ee6586"},
		{make([]byte, 32), make([]byte, 12), 1, "9f07e7be5551387a98ba977c732d080dcb0f29a048e3656912c6533e32ee7aed29b721769ce64e43d57133b074d839d531ed1f28510afb45ace10a1f4b794d6f"},
		{last, make([]byte, 12), 1, "3aeb5224ecf849929b9d828db1ced4dd832025e8018b8160b82284f3c949aa5a8eca00bbb4a73bdad192b5c42f73f2fd4e273644c8b36125a64addeb006c13a0"},
		{second, make([]byte, 12), 2, "72d54dfbf12ec44b362692df94137f328fea8da73990265ec1bbbea1ae9af0ca13b25aa26cb4a648cb9b9d1be65b2c0924a66c54d545ec1b7374f4872e99f096"},
		{make([]byte, 32), two, 0, "c2c64d378cd536374ae204b9ef933fcd1a8b2288b3dfa49672ab765b54ee27c78a970e0e955c14f3a88e741b97c286f75f8fc299e8148362fa198a39531bed6d"},
		{rising(32), nonceKnown(), wordTop, "ff2941b8d740f6cbb50936bf997ebd5218cb108dc53f41c64841d0218167430ca03b770ca74ccb642a28194d1dedd2ed13151e25ec5d7faeb6d060bfb7e6b146"},
		{full, fullNonce, wordTop, "d72b21cfa4b6b0c41d61f62b8a11159c6a4f63bc56c2035796c7ad37811121bbec56d54a530f3a933dd28a50feb23bfaf64f405be985f3718bdf4683e96be749"},
	}
	for _, r := range rows {
		sameList(t, "StreamBlock", impl.StreamBlock(r.key, r.nonce, r.count), impl.OK, hexed(t, r.want))
	}
}

func TestStreamBlockIsToldByQuarterRounds(t *testing.T) {
	for _, count := range []int64{0, 1, wordTop} {
		start := impl.StartState(someBytes(32), someBytes(12), count).List
		state := start
		for range 10 {
			for _, p := range placesOfRounds() {
				state = impl.QuarterRound(state, p[0], p[1], p[2], p[3]).List
			}
		}
		var want []byte
		for i := range state {
			word := impl.WordBytes(impl.AddWords(state[i], start[i]).Value).Bytes
			slices.Reverse(word)
			want = append(want, word...)
		}
		sameList(t, "StreamBlock by quarter rounds", impl.StreamBlock(someBytes(32), someBytes(12), count), impl.OK, want)
	}
}

func TestStreamXorKnown(t *testing.T) {
	// RFC 8439, 2.4.2.
	plain := "Ladies and Gentlemen of the class of '99: If I could offer you only one tip for the future, sunscreen would be it."
	nonce := []byte{0, 0, 0, 0, 0, 0, 0, 74, 0, 0, 0, 0}
	sameList(t, "StreamXor", impl.StreamXor(rising(32), nonce, []byte(plain)), impl.OK,
		hexed(t, "6e2e359a2568f98041ba0728dd0d6981e97e7aec1d4360c20a27afccfd9fae0bf91b65c5524733ab8f593dabcd62b3571639d624e65152ab8f530c359f0861d807ca0dbf500d6a6156a38e088a22b65e52bc514d16ccf806818ce91ab77937365af90bbf74a35be6b40b8eedf2785e42874d"))
	// As long as can be: the fourth block is cut.
	sameList(t, "StreamXor of zeros", impl.StreamXor(rising(32), nonceKnown(), make([]byte, 220)), impl.OK,
		hexed(t, "10f1e7e4d13b5915500fdd1fa32071c4c7d1f4c733c068030422aa9ac3d46c4ed2826446079faa0914c2d705d98b02a2b5129cd1de164eb9cbd083e8a2503c4e"+
			"0a88837739d7bf4ef8ccacb0ea2bb9d69d56c394aa351dfda5bf459f0a2e9fe8e721f89255f9c486bf21679c683d4f9c5cf2fa27865526005b06ca374c86af3b"+
			"dcbfbdcb83be65862ed5c20eae5a43241d6a92da6dca9a156be25297f51c27188a861e93cc3aeb129a76598baccd27453ac6941b4b4e1e5153a9fee95d1ba00e"+
			"69d09f0d336478ca9068335ae2b3090905fb0fe5d45115371d126e5b"))
}

// dataOfStream has lengths at and around the ends of blocks, and too long ones.
func dataOfStream() [][]byte {
	return append(lists(0, 1, 2, 63, 64, 65, 127, 128, 129, 191, 192, 193, 200, 201, 219, 220, 221, 222, 256, 600, 601, 5000), nil, make([]byte, 220), make([]byte, 221))
}

func TestStreamXor(t *testing.T) {
	for _, key := range keysOfStream() {
		for _, nonce := range noncesOfStream() {
			for _, data := range dataOfStream() {
				code := firstCode(whenForm(len(key) != 32 || len(nonce) != 12), whenAbove(len(data), 220))
				var want []byte
				if code == impl.OK {
					want = xorByHand(key, nonce, data)
				}
				sameList(t, "StreamXor", impl.StreamXor(key, nonce, data), code, want)
			}
		}
	}
}

func TestStreamXorIsToldByBlocks(t *testing.T) {
	for n := range 221 {
		data := someBytes(n)
		want := bytes.Clone(data)
		for i := range want {
			// Counts go from 1 on.
			want[i] ^= impl.StreamBlock(someBytes(32), someBytes(12), int64(1+i/64)).Bytes[i%64]
		}
		sameList(t, "StreamXor by blocks", impl.StreamXor(someBytes(32), someBytes(12), data), impl.OK, want)
	}
}

func TestP5HiddenTwiceIsThereAgain(t *testing.T) {
	keys, nonces := [][]byte{make([]byte, 32), rising(32), someBytes(32)}, [][]byte{make([]byte, 12), nonceKnown(), someBytes(12)}
	for i := range keys {
		for n := range 221 {
			for _, data := range [][]byte{someBytes(n), make([]byte, n)} {
				once := impl.StreamXor(keys[i], nonces[i], data)
				if once.Code != impl.OK || len(once.Bytes) != n {
					t.Fatalf("StreamXor of %d bytes: %+v", n, once)
				}
				// Else what is hidden would be there again, but not hidden.
				if n >= 16 && bytes.Equal(once.Bytes, data) {
					t.Errorf("%d bytes are not hidden", n)
				}
				sameList(t, "what is hidden twice", impl.StreamXor(keys[i], nonces[i], once.Bytes), impl.OK, data)
			}
		}
	}
}

func TestP5BeginningIsHiddenAsItself(t *testing.T) {
	data := someBytes(220)
	whole := impl.StreamXor(someBytes(32), someBytes(12), data)
	if whole.Code != impl.OK || len(whole.Bytes) != 220 {
		t.Fatalf("StreamXor: %+v", whole)
	}
	for n := range 221 {
		sameList(t, "a beginning", impl.StreamXor(someBytes(32), someBytes(12), data[:n]), impl.OK, whole.Bytes[:n])
	}
}

func TestP5NoiseIsToldApart(t *testing.T) {
	seen := map[string]string{}
	see := func(name string, r impl.BytesResult) {
		if r.Code != impl.OK || len(r.Bytes) != 64 {
			t.Fatalf("%s: %+v", name, r)
		}
		if ahead, ok := seen[string(r.Bytes)]; ok {
			t.Errorf("%s is as %s", name, ahead)
		}
		seen[string(r.Bytes)] = name
	}
	see("nothing", impl.StreamBlock(make([]byte, 32), make([]byte, 12), 0))
	for i := range 256 {
		key := make([]byte, 32)
		key[i/8] = 1 << (i % 8)
		see("another key", impl.StreamBlock(key, make([]byte, 12), 0))
	}
	for i := range 96 {
		nonce := make([]byte, 12)
		nonce[i/8] = 1 << (i % 8)
		see("another nonce", impl.StreamBlock(make([]byte, 32), nonce, 0))
	}
	for i := range 32 {
		see("another count", impl.StreamBlock(make([]byte, 32), make([]byte, 12), 1<<i))
	}
}

func TestNonceForKnown(t *testing.T) {
	base := hexed(t, "0102030405060708090a0b0c")
	rows := []struct {
		seq  int64
		want string
	}{
		{0, "0102030405060708090a0b0c"}, {1, "0102030405060708090a0b0d"}, {12, "0102030405060708090a0b00"},
		{255, "0102030405060708090a0bf3"}, {256, "0102030405060708090a0a0c"}, {0x01020304, "010203040506070808080808"},
		{1<<31 - 1, "010203040506070876f5f4f3"}, {1 << 31, "0102030405060708890a0b0c"},
	}
	for _, r := range rows {
		sameList(t, "NonceFor", impl.NonceFor(base, r.seq), impl.OK, hexed(t, r.want))
	}
}

func seqs() []int64 {
	list := []int64{-1, -2, -256, 0, 1, 200, 254, 255, 256, 257, 65535, 65536, 1<<24 - 1, 1 << 24, 1<<31 - 1, 1 << 31, 1<<31 + 1, wordTop, 1 << 32, 1<<32 + 1, 1 << 40, 1 << 62, math.MinInt64, math.MaxInt64}
	for i := range 32 {
		list = append(list, 1<<i)
	}
	return list
}

func TestNonceFor(t *testing.T) {
	for _, base := range noncesOfStream() {
		for _, seq := range seqs() {
			code := firstCode(whenForm(len(base) != 12), whenRange(seq < 0 || seq > 1<<31))
			var want []byte
			if code == impl.OK {
				want = nonceByHand(base, seq)
			}
			sameList(t, "NonceFor", impl.NonceFor(base, seq), code, want)
			if code == impl.OK {
				sameList(t, "NonceFor twice", impl.NonceFor(want, seq), impl.OK, base)
			}
		}
	}
}

func TestP1StreamArgumentsStay(t *testing.T) {
	behind := bytes.Repeat([]byte{0xa5}, 200)
	for _, n := range []int{0, 1, 31, 32, 33} {
		for _, m := range []int{0, 1, 11, 12, 13} {
			for _, l := range []int{0, 1, 64, 65, 220, 221} {
				key, nonce, data := roomyFor(someBytes(n)), roomyFor(someBytes(m)), roomyFor(someBytes(l))
				for _, v := range []int64{-1, 0, 1, 256, 1 << 31, 1<<31 + 1, wordTop, 1 << 32} {
					impl.StartState(key, nonce, v)
					impl.StreamBlock(key, nonce, v)
					impl.NonceFor(nonce, v)
				}
				impl.StreamXor(key, nonce, data)
				if !bytes.Equal(key[:n+200], append(someBytes(n), behind...)) || !bytes.Equal(nonce[:m+200], append(someBytes(m), behind...)) || !bytes.Equal(data[:l+200], append(someBytes(l), behind...)) {
					t.Errorf("an argument of %d, %d and %d bytes is changed", n, m, l)
				}
			}
		}
	}
	wrong := sixteenOf(9)
	wrong[3] = -1
	for _, list := range [][]int64{nil, sixteenOf(9)[:15], sixteenOf(9), append(sixteenOf(9), 5), wrong} {
		state := roomyState(list)
		impl.QuarterRound(state, 0, 4, 8, 12)
		impl.QuarterRound(state, 3, 3, 8, 12)
		impl.QuarterRound(state, 15, 14, 13, 16)
		if !slices.Equal(state[:len(list)+4], append(slices.Clone(list), 77, 78, 79, 80)) {
			t.Errorf("a state is changed: %v", state)
		}
	}
}

// streamAsks are the functions of the chapter that answer bytes, of a key, a
// nonce and data that suit them.
func streamAsks() map[string]func(key, nonce, data []byte) impl.BytesResult {
	return map[string]func(key, nonce, data []byte) impl.BytesResult{
		"StreamBlock": func(key, nonce, data []byte) impl.BytesResult {
			return impl.StreamBlock(key, nonce, int64(len(data)))
		},
		"StreamXor": impl.StreamXor,
		"NonceFor": func(key, nonce, data []byte) impl.BytesResult {
			return impl.NonceFor(nonce, int64(len(data)))
		},
	}
}

func TestP1StreamAnswersAreNewMemory(t *testing.T) {
	for name, ask := range streamAsks() {
		for _, n := range []int{0, 1, 64, 65, 220} {
			key, nonce, data := someBytes(32), someBytes(12), someBytes(n)
			first := ask(key, nonce, data)
			want := bytes.Clone(first.Bytes)
			second := ask(key, nonce, data)
			spoil(first.Bytes)
			sameList(t, name+" told ahead", second, impl.OK, want)
			sameList(t, "its key", impl.BytesResult{Bytes: key}, impl.OK, someBytes(32))
			sameList(t, "its nonce", impl.BytesResult{Bytes: nonce}, impl.OK, someBytes(12))
			sameList(t, "its data", impl.BytesResult{Bytes: data}, impl.OK, someBytes(n))
			sameList(t, name+" told behind", ask(key, nonce, data), impl.OK, want)
			spoil(key)
			spoil(nonce)
			spoil(data)
			sameList(t, name+" of what is changed behind it", second, impl.OK, want)
		}
	}
}

func TestP1StreamListsAreNewMemory(t *testing.T) {
	state, key, nonce := sixteenOf(10), someBytes(32), someBytes(12)
	asks := []struct {
		name string
		ask  func() impl.IntsResult
	}{
		{"QuarterRound", func() impl.IntsResult { return impl.QuarterRound(state, 0, 5, 10, 15) }},
		{"StartState", func() impl.IntsResult { return impl.StartState(key, nonce, 5) }},
	}
	for _, a := range asks {
		first := a.ask()
		want := slices.Clone(first.List)
		second := a.ask()
		spoilNumbers(first.List)
		sameNumbers(t, a.name+" told ahead", second, impl.OK, want)
		sameNumbers(t, "its state", impl.IntsResult{List: state}, impl.OK, sixteenOf(10))
		sameNumbers(t, a.name+" told behind", a.ask(), impl.OK, want)
		spoilNumbers(state)
		spoil(key)
		spoil(nonce)
		sameNumbers(t, a.name+" of what is changed behind it", second, impl.OK, want)
		state, key, nonce = sixteenOf(10), someBytes(32), someBytes(12)
	}
}

func TestP1StreamOfOneListThrice(t *testing.T) {
	// Key, nonce and data may lie in one memory.
	for name, ask := range streamAsks() {
		whole := someBytes(32)
		want := ask(someBytes(32), someBytes(32)[:12], someBytes(32)[20:]).Bytes
		sameList(t, name+" of one list thrice", ask(whole, whole[:12], whole[20:]), impl.OK, want)
		sameList(t, "that list", impl.BytesResult{Bytes: whole}, impl.OK, someBytes(32))
	}
}

func TestP1StreamHangsOnArgumentsAlone(t *testing.T) {
	ask := func() {
		sameNumbers(t, "QuarterRound", impl.QuarterRound(sixteenOf(11), 3, 4, 9, 14), impl.OK, quarterByHand(sixteenOf(11), 3, 4, 9, 14))
		sameNumbers(t, "StartState", impl.StartState(someBytes(32), someBytes(12), 77), impl.OK, startByHand(someBytes(32), someBytes(12), 77))
		sameList(t, "StreamBlock", impl.StreamBlock(someBytes(32), someBytes(12), 77), impl.OK, blockByHand(someBytes(32), someBytes(12), 77))
		sameList(t, "StreamXor", impl.StreamXor(someBytes(32), someBytes(12), someBytes(150)), impl.OK, xorByHand(someBytes(32), someBytes(12), someBytes(150)))
		sameList(t, "NonceFor", impl.NonceFor(someBytes(12), 77), impl.OK, nonceByHand(someBytes(12), 77))
	}
	ask()
	impl.QuarterRound(nil, 0, 1, 2, 3)
	impl.QuarterRound(sixteenOf(12), 1, 2, 3, 4)
	impl.StartState(rising(32), nonceKnown(), wordTop)
	impl.StartState(nil, nil, -1)
	impl.StreamBlock(rising(32), nonceKnown(), 0)
	impl.StreamBlock(rising(31), nonceKnown(), 0)
	impl.StreamXor(rising(32), nonceKnown(), someBytes(220))
	impl.StreamXor(rising(32), nonceKnown(), someBytes(221))
	impl.NonceFor(nonceKnown(), 1<<31)
	impl.NonceFor(nonceKnown(), -1)
	ask()
	// Nothing, be it nil or empty, is one value.
	sameList(t, "StreamXor of nil", impl.StreamXor(rising(32), nonceKnown(), nil), impl.OK, impl.StreamXor(rising(32), nonceKnown(), []byte{}).Bytes)
	sameList(t, "StreamXor without a key", impl.StreamXor(nil, nonceKnown(), nil), impl.StreamXor([]byte{}, nonceKnown(), nil).Code, nil)
	sameNumbers(t, "QuarterRound of nil", impl.QuarterRound(nil, 0, 1, 2, 3), impl.QuarterRound([]int64{}, 0, 1, 2, 3).Code, nil)
}
