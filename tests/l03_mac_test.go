package tests

import (
	"bytes"
	"crypto/hkdf"
	"crypto/hmac"
	"crypto/sha256"
	"encoding/hex"
	"math"
	"slices"
	"strings"
	"testing"

	"loop.example/g00375/impl"
)

// hexed reads bytes by the library, not by the program that is tested.
func hexed(t *testing.T, text string) []byte {
	t.Helper()
	data, err := hex.DecodeString(text)
	if err != nil {
		t.Fatal(err)
	}
	return data
}

// lists are bytes without a pattern of each of these lengths.
func lists(lengths ...int) [][]byte {
	var out [][]byte
	for _, n := range lengths {
		out = append(out, someBytes(n))
	}
	return out
}

// someKeys and the like have the edges, inside the bounds and outside them.
func someKeys() [][]byte {
	return append(lists(0, 1, 20, 31, 32, 33, 63, 64, 65, 66, 128, 1000), nil, make([]byte, 32), make([]byte, 64), make([]byte, 65))
}

func someData() [][]byte {
	return append(lists(0, 1, 32, 55, 56, 64, 499, 500, 501, 536, 537, 600, 601, 2000), nil, make([]byte, 500), make([]byte, 501))
}

func someInfos() [][]byte {
	return append(lists(0, 1, 10, 32, 150, 299, 300, 301, 500, 501, 600, 601), nil)
}

// someCounts has numbers that would be inside the bounds if their higher bits
// were dropped.
func someCounts() []int64 {
	return []int64{0, 1, 12, 31, 32, 33, 63, 64, 65, 96, 224, 254, 255, 256, 257, 288, 512, 65536, 1 << 32, 1<<32 + 5, 1 << 62, -1, -2, -32, -255, -256, math.MinInt64, math.MinInt64 + 7, math.MaxInt64}
}

func goodCounts() []int64 {
	return []int64{0, 1, 31, 32, 33, 63, 64, 65, 255}
}

func goodLabels() []string {
	return []string{"a", " ", "~", " ~", "key", "iv", "derived", "finished", "c hs traffic", "tls13 ", strings.Repeat("x", 39), strings.Repeat("x", 40), strings.Repeat("~", 40), strings.Repeat(" ", 40)}
}

func wrongLabels() []string {
	long := strings.Repeat("x", 39)
	return []string{"", "\x1f", "\x7f", "\x00", "\n", "\x80", "\xff", "é", "a\x1f", "\x1fa", "a\x7f", "\x7fa", "ab\x7fcd", "a\x00b", "a\tb", "key\n", "ключ",
		long + "\x1f", long + "\x7f", "\x1f" + long, long + "é", strings.Repeat("x", 41), strings.Repeat("x", 42), strings.Repeat(" ", 41), strings.Repeat("x", 46), strings.Repeat("x", 250), strings.Repeat("x", 1000)}
}

func someContexts() [][]byte {
	return append(lists(0, 1, 32, 99, 100, 101, 255, 256, 300, 1000), nil, make([]byte, 100), make([]byte, 101))
}

// macByLibrary, expandByLibrary and labelByHand are what the program's answers
// are held against.
func macByLibrary(key []byte, data []byte) []byte {
	m := hmac.New(sha256.New, key)
	m.Write(data)
	return m.Sum(nil)
}

func expandByLibrary(t *testing.T, key []byte, info []byte, n int64) []byte {
	t.Helper()
	// More is asked for and then cut, as the library need not answer to 0.
	whole, err := hkdf.Expand(sha256.New, key, string(info), 256)
	if err != nil {
		t.Fatal(err)
	}
	return whole[:n]
}

func labelByHand(label string, context []byte, n int64) []byte {
	data := []byte{byte(n / 256), byte(n % 256), byte(6 + len(label)), 't', 'l', 's', '1', '3', ' '}
	data = append(data, label...)
	data = append(data, byte(len(context)))
	return append(data, context...)
}

// firstCode is the first one that is so, in the order in which the document
// names them.
func firstCode(codes ...int64) int64 {
	for _, c := range codes {
		if c != impl.OK {
			return c
		}
	}
	return impl.OK
}

func whenAbove(n int, top int) int64 {
	if n > top {
		return impl.ErrMany
	}
	return impl.OK
}

func whenNoCount(n int64) int64 {
	if n < 0 || n > 255 {
		return impl.ErrRange
	}
	return impl.OK
}

func whenNoLabel(label string) int64 {
	if slices.Contains(wrongLabels(), label) {
		return impl.ErrText
	}
	return impl.OK
}

func TestKeyBytes(t *testing.T) {
	if impl.KeyBytes != 32 {
		t.Error(impl.KeyBytes)
	}
}

func TestMacKnown(t *testing.T) {
	// Those of RFC 4231 whose keys are not too long, and two more.
	rows := []struct{ key, data, want string }{
		{strings.Repeat("\x0b", 20), "Hi There", "b0344c61d8db38535ca8afceaf0bf12b881dc200c9833da726e9376c2e32cff7"},
		{"Jefe", "what do ya want for nothing?", "5bdcc146bf60754e6a042426089575c75a003f089d2739839dec58b964ec3843"},
		{strings.Repeat("\xaa", 20), strings.Repeat("\xdd", 50), "773ea91e36800e46854db8ebd09181a72959098b3ef8c122d9635514ced565fe"},
		{"\x01\x02\x03\x04\x05\x06\x07\x08\x09\x0a\x0b\x0c\x0d\x0e\x0f\x10\x11\x12\x13\x14\x15\x16\x17\x18\x19", strings.Repeat("\xcd", 50), "82558a389a443c0ea4cc819899f2083a85f0faa3e578f8077a2e3ff46729665b"},
		{"key", "The quick brown fox jumps over the lazy dog", "f7bc83f430538424b13298e6aa6fb143ef4d59a14946175997479dbc2d1a3cd8"},
		{"", "", "b613679a0814d9ec772f95d778c35fc5ff1697c493715653c6c712144292c5ad"},
	}
	for _, r := range rows {
		sameList(t, "MacOf "+r.data, impl.MacOf([]byte(r.key), []byte(r.data)), impl.OK, hexed(t, r.want))
	}
	sameList(t, "MacOf nil", impl.MacOf(nil, nil), impl.OK, hexed(t, rows[5].want))
}

func TestMacOf(t *testing.T) {
	for _, key := range someKeys() {
		for _, data := range someData() {
			code := firstCode(whenAbove(len(key), 64), whenAbove(len(data), 500))
			var want []byte
			if code == impl.OK {
				want = macByLibrary(key, data)
			}
			sameList(t, "MacOf", impl.MacOf(key, data), code, want)
		}
	}
	for n := range 65 {
		key := someBytes(n)
		sameList(t, "MacOf with a key of any length", impl.MacOf(key, []byte("abc")), impl.OK, macByLibrary(key, []byte("abc")))
	}
	for n := range 501 {
		data := someBytes(n)
		sameList(t, "MacOf data of any length", impl.MacOf([]byte("abc"), data), impl.OK, macByLibrary([]byte("abc"), data))
	}
}

func TestMacIsToldByDigests(t *testing.T) {
	for _, n := range []int{0, 1, 32, 63, 64} {
		for _, data := range lists(0, 1, 56, 500) {
			outer, inner := make([]byte, 64), make([]byte, 64)
			copy(outer, someBytes(n))
			copy(inner, someBytes(n))
			for i := range 64 {
				outer[i] ^= 92
				inner[i] ^= 54
			}
			digest := impl.DigestOf(append(inner, data...)).Bytes
			sameList(t, "MacOf by digests", impl.MacOf(someBytes(n), data), impl.OK, impl.DigestOf(append(outer, digest...)).Bytes)
		}
	}
}

func TestExtractKey(t *testing.T) {
	for _, salt := range someKeys() {
		for _, data := range someData() {
			code := firstCode(whenAbove(len(salt), 64), whenAbove(len(data), 500))
			var want []byte
			if code == impl.OK {
				library, err := hkdf.Extract(sha256.New, data, salt)
				if err != nil {
					t.Fatal(err)
				}
				want = library
			}
			sameList(t, "ExtractKey", impl.ExtractKey(salt, data), code, want)
		}
	}
	for _, data := range lists(0, 1, 500) {
		want := macByLibrary(make([]byte, 32), data)
		sameList(t, "ExtractKey of no salt", impl.ExtractKey(nil, data), impl.OK, want)
		sameList(t, "ExtractKey of an empty salt", impl.ExtractKey([]byte{}, data), impl.OK, want)
	}
}

func TestExtractAndExpandKnown(t *testing.T) {
	// RFC 5869, the first and the third test, and the second from its key on.
	key := "077709362c2e32df0ddc3f0dc47bba6390b6c73bb50f9c3122ec844ad7c2b3e5"
	sameList(t, "ExtractKey", impl.ExtractKey(hexed(t, "000102030405060708090a0b0c"), bytes.Repeat([]byte{11}, 22)), impl.OK, hexed(t, key))
	sameList(t, "ExpandKey", impl.ExpandKey(hexed(t, key), hexed(t, "f0f1f2f3f4f5f6f7f8f9"), 42), impl.OK,
		hexed(t, "3cb25f25faacd57a90434f64d0362f2a2d2d0a90cf1a5a4c5db02d56ecc4c5bf34007208d5b887185865"))
	key = "19ef24a32c717b167f33a91d6f648bdf96596776afdb6377ac434c1c293ccb04"
	sameList(t, "ExtractKey without salt", impl.ExtractKey(nil, bytes.Repeat([]byte{11}, 22)), impl.OK, hexed(t, key))
	sameList(t, "ExpandKey without info", impl.ExpandKey(hexed(t, key), nil, 42), impl.OK,
		hexed(t, "8da4e775a563c18f715f802a063c5a31b8a11f5c5ee1879ec3454e5f3c738d2d9d201395faa4b61a96c8"))
	var info []byte
	for i := 0xb0; i <= 0xff; i++ {
		info = append(info, byte(i))
	}
	sameList(t, "ExpandKey to three blocks", impl.ExpandKey(hexed(t, "06a6b88c5853361a06104c9ceb35b45cef760014904671014a193f40c15fc244"), info, 82), impl.OK,
		hexed(t, "b11e398dc80327a1c8e7f78c596a49344f012eda2d4efad8a050cc4c19afa97c59045a99cac7827271cb41c65e590e09da3275600c2f09b8367793a9aca3db71cc30c58179ec3e87c14c01d5c1f3434f1d87"))
}

func TestExpandKey(t *testing.T) {
	for _, key := range someKeys() {
		for _, info := range someInfos() {
			for _, n := range someCounts() {
				code := firstCode(whenAbove(len(key), 64), whenAbove(len(info), 300), whenNoCount(n))
				var want []byte
				if code == impl.OK {
					want = expandByLibrary(t, key, info, n)
				}
				sameList(t, "ExpandKey", impl.ExpandKey(key, info, n), code, want)
			}
		}
	}
	for n := range int64(256) {
		sameList(t, "ExpandKey to any length", impl.ExpandKey(someBytes(32), someBytes(10), n), impl.OK, expandByLibrary(t, someBytes(32), someBytes(10), n))
	}
}

func TestExpandIsToldByMacs(t *testing.T) {
	for _, key := range lists(0, 1, 32, 64) {
		for _, info := range lists(0, 1, 300) {
			var all, last []byte
			for i := byte(1); i <= 8; i++ {
				data := append(bytes.Clone(last), info...)
				last = impl.MacOf(key, append(data, i)).Bytes
				all = append(all, last...)
			}
			for _, n := range goodCounts() {
				sameList(t, "ExpandKey by macs", impl.ExpandKey(key, info, n), impl.OK, all[:n])
			}
		}
	}
}

func TestExpandCodesInOrder(t *testing.T) {
	sameList(t, "key and n wrong", impl.ExpandKey(make([]byte, 65), nil, -1), impl.ErrMany, nil)
	sameList(t, "info and n wrong", impl.ExpandKey(nil, make([]byte, 301), 256), impl.ErrMany, nil)
	sameList(t, "n alone wrong", impl.ExpandKey(make([]byte, 64), make([]byte, 300), 256), impl.ErrRange, nil)
	sameList(t, "nothing wrong", impl.ExpandKey(make([]byte, 64), make([]byte, 300), 0), impl.OK, nil)
}

func TestLabelBytes(t *testing.T) {
	sameList(t, "LabelBytes", impl.LabelBytes("key", nil, 32), impl.OK, hexed(t, "002009746c733133206b657900"))
	sameList(t, "LabelBytes", impl.LabelBytes("iv", []byte{}, 12), impl.OK, hexed(t, "000c08746c73313320697600"))
	sameList(t, "LabelBytes", impl.LabelBytes("~", []byte{0, 7}, 255), impl.OK, hexed(t, "00ff07746c733133207e020007"))
	sameList(t, "LabelBytes", impl.LabelBytes(" ", []byte{255}, 0), impl.OK, hexed(t, "000007746c733133202001ff"))
	longest := impl.LabelBytes(strings.Repeat("x", 40), make([]byte, 100), 255)
	if longest.Code != impl.OK || len(longest.Bytes) != 150 || longest.Bytes[2] != 46 || longest.Bytes[49] != 100 {
		t.Errorf("the longest LabelBytes: %+v", longest)
	}
	for _, label := range append(goodLabels(), wrongLabels()...) {
		for _, context := range someContexts() {
			for _, n := range someCounts() {
				code := firstCode(whenNoLabel(label), whenAbove(len(context), 100), whenNoCount(n))
				var want []byte
				if code == impl.OK {
					want = labelByHand(label, context, n)
				}
				sameList(t, "LabelBytes of "+label, impl.LabelBytes(label, context, n), code, want)
			}
		}
	}
}

func TestLabelBytesOfEachByte(t *testing.T) {
	for i := range 256 {
		one := string([]byte{byte(i)})
		for _, label := range []string{one, one + "ab", "a" + one + "b", "ab" + one, strings.Repeat(one, 40), strings.Repeat("x", 39) + one} {
			code, want := int64(impl.ErrText), []byte(nil)
			if i >= 32 && i <= 126 {
				code, want = impl.OK, labelByHand(label, nil, 7)
			}
			sameList(t, "LabelBytes", impl.LabelBytes(label, nil, 7), code, want)
		}
	}
	for n := range 60 {
		label := strings.Repeat("l", n)
		code, want := int64(impl.ErrText), []byte(nil)
		if n >= 1 && n <= 40 {
			code, want = impl.OK, labelByHand(label, nil, 7)
		}
		sameList(t, "LabelBytes", impl.LabelBytes(label, nil, 7), code, want)
	}
}

func TestLabelCodesInOrder(t *testing.T) {
	sameList(t, "all wrong", impl.LabelBytes("", make([]byte, 101), -1), impl.ErrText, nil)
	sameList(t, "label and n wrong", impl.LabelBytes("\x7f", make([]byte, 100), 256), impl.ErrText, nil)
	sameList(t, "context and n wrong", impl.LabelBytes("a", make([]byte, 101), 256), impl.ErrMany, nil)
	sameList(t, "n alone wrong", impl.LabelBytes("a", make([]byte, 100), 256), impl.ErrRange, nil)
}

func TestExpandLabelKnown(t *testing.T) {
	// Of the handshake that RFC 8448 tells: keys of the server's secret.
	secret := hexed(t, "b67b7d690cc16c4e75e54213cb2d37b4e9c912bcded9105d42befd59d391ad38")
	sameList(t, "ExpandLabel key", impl.ExpandLabel(secret, "key", nil, 16), impl.OK, hexed(t, "3fce516009c21727d0f2e4e86ee403bc"))
	sameList(t, "ExpandLabel iv", impl.ExpandLabel(secret, "iv", nil, 12), impl.OK, hexed(t, "5d313eb2671276ee13000b30"))
	sameList(t, "ExpandLabel finished", impl.ExpandLabel(secret, "finished", nil, 32), impl.OK,
		hexed(t, "008d3b66f816ea559f96b537e885c31fc068bf492c652f01f288a1d8cdc19fc8"))
}

func TestExpandLabel(t *testing.T) {
	for _, key := range someKeys() {
		for _, label := range []string{"a", "derived", strings.Repeat("x", 40), "", "a\x1f", "a\x7f", strings.Repeat("x", 41)} {
			for _, context := range lists(0, 1, 100, 101, 500) {
				for _, n := range []int64{-1, 0, 1, 32, 33, 64, 255, 256, math.MaxInt64, math.MinInt64} {
					code := firstCode(whenAbove(len(key), 64), whenNoLabel(label), whenAbove(len(context), 100), whenNoCount(n))
					var want []byte
					if code == impl.OK {
						want = expandByLibrary(t, key, labelByHand(label, context, n), n)
					}
					sameList(t, "ExpandLabel of "+label, impl.ExpandLabel(key, label, context, n), code, want)
				}
			}
		}
	}
}

func TestExpandLabelCodesInOrder(t *testing.T) {
	sameList(t, "all wrong", impl.ExpandLabel(make([]byte, 65), "", make([]byte, 101), -1), impl.ErrMany, nil)
	sameList(t, "all but the key wrong", impl.ExpandLabel(make([]byte, 64), "", make([]byte, 101), -1), impl.ErrText, nil)
	sameList(t, "context and n wrong", impl.ExpandLabel(make([]byte, 64), "a", make([]byte, 101), -1), impl.ErrMany, nil)
	sameList(t, "n alone wrong", impl.ExpandLabel(make([]byte, 64), "a", make([]byte, 100), -1), impl.ErrRange, nil)
}

func TestDeriveKeyKnown(t *testing.T) {
	// Of RFC 8448: the early secret, what is derived of it, and the next secret.
	early := impl.ExtractKey(nil, make([]byte, 32))
	sameList(t, "the early secret", early, impl.OK, hexed(t, "33ad0a1c607ec03b09e6cd9893680ce210adf300aa1f2660e1b22e10f170f92a"))
	derived := impl.DeriveKey(early.Bytes, "derived", nil)
	sameList(t, "what is derived", derived, impl.OK, hexed(t, "6f2615a108c702c5678f54fc9dbab69716c076189c48250cebeac3576c3611ba"))
	sameList(t, "the next secret", impl.ExtractKey(derived.Bytes, hexed(t, "8bd4054fb55b9d63fdfbacf9f04b9f0d35e6d63f537563efd46272900f89492d")), impl.OK,
		hexed(t, "1dc826e93606aa6fdc0aadc12f741b01046aa6b99f691ed221a9f0ca043fbeac"))
}

func TestDeriveKey(t *testing.T) {
	for _, key := range someKeys() {
		for _, label := range append(goodLabels(), wrongLabels()...) {
			for _, data := range lists(0, 1, 64, 500, 501, 600, 601) {
				code := firstCode(whenAbove(len(key), 64), whenNoLabel(label), whenAbove(len(data), 500))
				var want []byte
				if code == impl.OK {
					digest := sha256.Sum256(data)
					want = expandByLibrary(t, key, labelByHand(label, digest[:], 32), 32)
				}
				sameList(t, "DeriveKey of "+label, impl.DeriveKey(key, label, data), code, want)
			}
		}
	}
	sameList(t, "DeriveKey of nil", impl.DeriveKey(nil, "a", nil), impl.OK, impl.DeriveKey([]byte{}, "a", []byte{}).Bytes)
}

func TestDeriveKeyCodesInOrder(t *testing.T) {
	sameList(t, "all wrong", impl.DeriveKey(make([]byte, 65), "", make([]byte, 501)), impl.ErrMany, nil)
	sameList(t, "label and data wrong", impl.DeriveKey(make([]byte, 64), "", make([]byte, 501)), impl.ErrText, nil)
	sameList(t, "data alone wrong", impl.DeriveKey(make([]byte, 64), "a", make([]byte, 501)), impl.ErrMany, nil)
}

func TestP4ZerosBehindAKey(t *testing.T) {
	for _, n := range []int{0, 1, 2, 31, 32, 33, 63, 64} {
		key := someBytes(n)
		for zeros := range 64 - n + 1 {
			longer := append(bytes.Clone(key), make([]byte, zeros)...)
			sameList(t, "MacOf", impl.MacOf(longer, []byte("abc")), impl.OK, impl.MacOf(key, []byte("abc")).Bytes)
			sameList(t, "ExtractKey", impl.ExtractKey(longer, []byte("abc")), impl.OK, impl.ExtractKey(key, []byte("abc")).Bytes)
			sameList(t, "ExpandKey", impl.ExpandKey(longer, []byte("abc"), 70), impl.OK, impl.ExpandKey(key, []byte("abc"), 70).Bytes)
			sameList(t, "ExpandLabel", impl.ExpandLabel(longer, "key", nil, 70), impl.OK, impl.ExpandLabel(key, "key", nil, 70).Bytes)
			sameList(t, "DeriveKey", impl.DeriveKey(longer, "key", nil), impl.OK, impl.DeriveKey(key, "key", nil).Bytes)
		}
		// One zero more than there is room for is one byte too many.
		longest := append(bytes.Clone(key), make([]byte, 65-n)...)
		sameList(t, "MacOf with too many zeros", impl.MacOf(longest, nil), impl.ErrMany, nil)
		sameList(t, "ExtractKey with too many zeros", impl.ExtractKey(longest, nil), impl.ErrMany, nil)
	}
}

func TestP4AllElseOfAKeyCounts(t *testing.T) {
	seen := map[string]int{}
	for bit := range 512 {
		key := make([]byte, 64)
		key[bit/8] = 1 << (bit % 8)
		mac := string(impl.MacOf(key, []byte("abc")).Bytes)
		if at, ok := seen[mac]; ok {
			t.Errorf("keys of the bits %d and %d have one mac", at, bit)
		}
		seen[mac] = bit
	}
	// A zero ahead of a key makes it another one.
	if impl.SameBytes(impl.MacOf([]byte{0, 1}, nil).Bytes, impl.MacOf([]byte{1}, nil).Bytes) {
		t.Error("a zero ahead of a key is not seen")
	}
}

func TestP4ShorterIsTheBeginning(t *testing.T) {
	for _, key := range lists(0, 1, 32, 63, 64) {
		for _, info := range lists(0, 1, 300) {
			longest := impl.ExpandKey(key, info, 255)
			if longest.Code != impl.OK || len(longest.Bytes) != 255 {
				t.Fatalf("ExpandKey to 255: %+v", longest)
			}
			for n := range int64(256) {
				sameList(t, "a shorter key", impl.ExpandKey(key, info, n), impl.OK, longest.Bytes[:n])
			}
		}
	}
}

func TestP4LabelIsToldByItsBytes(t *testing.T) {
	for _, label := range goodLabels() {
		for _, context := range lists(0, 1, 32, 100) {
			for _, n := range goodCounts() {
				told := impl.LabelBytes(label, context, n)
				sameList(t, "LabelBytes", told, impl.OK, labelByHand(label, context, n))
				sameList(t, "ExpandLabel", impl.ExpandLabel(someBytes(32), label, context, n), impl.OK, impl.ExpandKey(someBytes(32), told.Bytes, n).Bytes)
			}
		}
		for _, data := range lists(0, 1, 500) {
			digest := impl.DigestOf(data).Bytes
			sameList(t, "DeriveKey", impl.DeriveKey(someBytes(32), label, data), impl.OK, impl.ExpandLabel(someBytes(32), label, digest, 32).Bytes)
		}
	}
}

func TestP4LabelsAreToldApart(t *testing.T) {
	seen := map[string]string{}
	for _, label := range []string{"a", "b", "ab", "a ", " a", "A", "aa", strings.Repeat("a", 40)} {
		for _, context := range []string{"", "a", "\x00", "\x00\x00", "b", strings.Repeat("a", 100)} {
			for _, n := range []int64{0, 1, 32, 255} {
				told := string(impl.LabelBytes(label, []byte(context), n).Bytes)
				if ahead, ok := seen[told]; ok {
					t.Errorf("%q, %q, %d is told as %s", label, context, n, ahead)
				}
				seen[told] = label + ", " + context
			}
		}
	}
	if impl.SameBytes(impl.DeriveKey(nil, "a", nil).Bytes, impl.DeriveKey(nil, "b", nil).Bytes) || impl.SameBytes(impl.DeriveKey(nil, "a", []byte{0}).Bytes, impl.DeriveKey(nil, "a", nil).Bytes) {
		t.Error("another label, or other data, derives the same key")
	}
}

func TestP1MacArgumentsStay(t *testing.T) {
	for _, n := range []int{0, 1, 32, 63, 64, 65, 100, 101, 300, 301, 500, 501} {
		for _, m := range []int{0, 1, 64, 65, 100, 101, 300, 301, 500, 501} {
			a, b := roomyFor(someBytes(n)), roomyFor(someBytes(m))
			impl.MacOf(a, b)
			impl.ExtractKey(a, b)
			impl.ExpandKey(a, b, 100)
			impl.ExpandKey(a, b, -1)
			impl.LabelBytes("key", a, 100)
			impl.LabelBytes("", a, 100)
			impl.ExpandLabel(a, "key", b, 100)
			impl.ExpandLabel(a, "", b, 256)
			impl.DeriveKey(a, "key", b)
			impl.DeriveKey(a, "\x7f", b)
			if !bytes.Equal(a[:n+200], append(someBytes(n), bytes.Repeat([]byte{0xa5}, 200)...)) || !bytes.Equal(b[:m+200], append(someBytes(m), bytes.Repeat([]byte{0xa5}, 200)...)) {
				t.Errorf("an argument of %d and %d bytes is changed", n, m)
			}
		}
	}
}

// macAsks are all functions of the chapter, of two lists that suit them.
func macAsks() map[string]func(a []byte, b []byte) impl.BytesResult {
	return map[string]func(a []byte, b []byte) impl.BytesResult{
		"MacOf":      impl.MacOf,
		"ExtractKey": impl.ExtractKey,
		"ExpandKey": func(a []byte, b []byte) impl.BytesResult {
			return impl.ExpandKey(a, b, 70)
		},
		"LabelBytes": func(a []byte, b []byte) impl.BytesResult {
			return impl.LabelBytes("key", b, int64(len(a)))
		},
		"ExpandLabel": func(a []byte, b []byte) impl.BytesResult {
			return impl.ExpandLabel(a, "key", b, 70)
		},
		"DeriveKey": func(a []byte, b []byte) impl.BytesResult {
			return impl.DeriveKey(a, "key", b)
		},
	}
}

func TestP1MacAnswersAreNewMemory(t *testing.T) {
	for name, ask := range macAsks() {
		for _, n := range []int{0, 1, 32, 63, 64} {
			for _, m := range []int{0, 1, 32, 100} {
				a, b := someBytes(n), someBytes(m)
				first := ask(a, b)
				want := bytes.Clone(first.Bytes)
				second := ask(a, b)
				spoil(first.Bytes)
				sameList(t, name+" told ahead", second, impl.OK, want)
				sameList(t, "its first argument", impl.BytesResult{Bytes: a}, impl.OK, someBytes(n))
				sameList(t, "its second argument", impl.BytesResult{Bytes: b}, impl.OK, someBytes(m))
				sameList(t, name+" told behind", ask(a, b), impl.OK, want)
				spoil(a)
				spoil(b)
				sameList(t, name+" of what is changed behind it", second, impl.OK, want)
			}
		}
	}
}

func TestP1MacOneListTwice(t *testing.T) {
	for name, ask := range macAsks() {
		for _, n := range []int{0, 1, 32, 64} {
			both := roomyFor(someBytes(n))
			sameList(t, name+" of one list twice", ask(both, both), impl.OK, ask(someBytes(n), someBytes(n)).Bytes)
		}
	}
}

func TestP1MacHangsOnArgumentsAlone(t *testing.T) {
	wants := map[string][]byte{}
	for name, ask := range macAsks() {
		wants[name] = ask(someBytes(40), someBytes(90)).Bytes
	}
	impl.MacOf(make([]byte, 65), nil)
	impl.MacOf(someBytes(64), someBytes(500))
	impl.ExtractKey(someBytes(64), someBytes(501))
	impl.ExpandKey(someBytes(64), someBytes(300), 255)
	impl.ExpandKey(nil, nil, math.MinInt64)
	impl.LabelBytes("", nil, 0)
	impl.LabelBytes(strings.Repeat("x", 40), someBytes(100), 255)
	impl.ExpandLabel(someBytes(64), strings.Repeat("x", 40), someBytes(100), 255)
	impl.ExpandLabel(nil, "\x1f", nil, 5)
	impl.DeriveKey(someBytes(64), strings.Repeat("x", 40), someBytes(500))
	impl.DeriveKey(nil, "", someBytes(501))
	for name, ask := range macAsks() {
		sameList(t, name, ask(someBytes(40), someBytes(90)), impl.OK, wants[name])
		// Nothing, be it nil or empty, is one value.
		sameList(t, name+" of nil", ask(nil, nil), impl.OK, ask([]byte{}, []byte{}).Bytes)
	}
}
